
/- For every input the law BackoffGrows answers true: of more tries the delay is no less, and of one more at most twice as long; it is from the base to the cap. -/
import Derived.Test.YthbkfkolpiajhaaAwkO
import Derived.Test.YthbkfkolpiajhaaOpenO
namespace Go.Proofs.Ythbkfkolpiajhaa
open Go.ChangeShapes Go.WideShapes Go.ChangeAt Go.RowKit

set_option maxHeartbeats 4000000 in
set_option maxRecDepth 100000 in
theorem backoffGrows_walk (a b : Int) (w : World) (ha : -9223372036854775808 ≤ a ∧ a ≤ 9223372036854775807) :
    Calls Try.prog 5 #[.int .i64 a, .int .i64 b] w fun e w' => e = .returned (.bool true) ∧ Gr w w' := by
  have HA : Hid (Calls Try.prog 11 #[] w fun e w2 => e = .returned (.bool true) ∧ Gr w w2) := awake_any w
  have H1 : Hid (Calls Try.prog 9 #[.int .i64 a] w fun e w' => e = .returned (.int .i64 (Bo.delE a)) ∧ w' = w) := delay_any a w
  have H2 : Hid (Calls Try.prog 9 #[.int .i64 b] w fun e w' => e = .returned (.int .i64 (Bo.delE b)) ∧ w' = w) := delay_any b w
  have H3 : Hid (Calls Try.prog 9 #[.int .i64 (a + 1)] w fun e w' => e = .returned (.int .i64 (Bo.delE (a + 1))) ∧ w' = w) := delay_any (a + 1) w
  have hx := Bo.del_range a
  have hm : a ≤ b → Bo.delE a ≤ Bo.delE b := Bo.del_mono
  have ht := Bo.del_twice a
  generalize Bo.delE a = x at *
  generalize Bo.delE b = y at *
  generalize Bo.delE (a + 1) = z at *
  by_cases hM : a = 9223372036854775807
  · subst hM
    clear ht H3
    by_cases hab : 9223372036854775807 ≤ b
    · have hyx : ¬ (y < x) := by have := hm hab; omega
      clear hm
      go_enter Try.func5, Try.ntmps5
      go_wp2_with fail
      refine H1.out.mono ?_
      rintro e w1 ⟨rfl, hww⟩; obtain rfl := hww.symm
      go_wp2_with fail
      refine H2.out.mono ?_
      rintro e w1 ⟨rfl, hww⟩; obtain rfl := hww.symm
      go_wp2_with fail
      refine HA.out.mono ?_
      rintro e w1 ⟨rfl, hg1⟩
      go_wp2
      go_ret
      exact ⟨rfl, hg1⟩
    · clear hm
      go_enter Try.func5, Try.ntmps5
      go_wp2_with fail
      refine H1.out.mono ?_
      rintro e w1 ⟨rfl, hww⟩; obtain rfl := hww.symm
      go_wp2_with fail
      refine H2.out.mono ?_
      rintro e w1 ⟨rfl, hww⟩; obtain rfl := hww.symm
      go_wp2_with fail
      refine HA.out.mono ?_
      rintro e w1 ⟨rfl, hg1⟩
      go_wp2
      go_ret
      exact ⟨rfl, hg1⟩
  · by_cases hab : a ≤ b
    · have hyx : ¬ (y < x) := by have := hm hab; omega
      clear hm
      go_enter Try.func5, Try.ntmps5
      go_wp2_with fail
      refine H1.out.mono ?_
      rintro e w1 ⟨rfl, hww⟩; obtain rfl := hww.symm
      go_wp2_with fail
      refine H2.out.mono ?_
      rintro e w1 ⟨rfl, hww⟩; obtain rfl := hww.symm
      go_wp2_with fail
      refine H3.out.mono ?_
      rintro e w1 ⟨rfl, hww⟩; obtain rfl := hww.symm
      go_wp2_with fail
      refine HA.out.mono ?_
      rintro e w1 ⟨rfl, hg1⟩
      go_wp2
      go_ret
      exact ⟨rfl, hg1⟩
    · clear hm
      go_enter Try.func5, Try.ntmps5
      go_wp2_with fail
      refine H1.out.mono ?_
      rintro e w1 ⟨rfl, hww⟩; obtain rfl := hww.symm
      go_wp2_with fail
      refine H2.out.mono ?_
      rintro e w1 ⟨rfl, hww⟩; obtain rfl := hww.symm
      go_wp2_with fail
      refine H3.out.mono ?_
      rintro e w1 ⟨rfl, hww⟩; obtain rfl := hww.symm
      go_wp2_with fail
      refine HA.out.mono ?_
      rintro e w1 ⟨rfl, hg1⟩
      go_wp2
      go_ret
      exact ⟨rfl, hg1⟩

set_option maxRecDepth 100000 in
theorem backoffGrows_lifted (os : Os) (started : os.Started) (H : Type) (enc : TypeId × Value → H) :
    ReturnsInHanded {} Try.checked os 5 .any (Rows.backoffGrowsSpec.pre6 enc Try.prog Try.f5 Rows.backoffGrowsRow.domain false) (Rows.backoffGrowsSpec.post enc Try.prog Try.f5 false true false false) := by
  refine returnsInHanded_of_change (C := Try.checked) own2 started (by kernel_rfl) Try.func5
    (ChangeSpec.witness6 (enc := enc) (C := Try.checked) false ⟨#[], #[.int .i64 0, .int .i64 0], []⟩ 8 (by kernel_rfl) (by kernel_rfl) (by kernel_rfl) (by kernel_rfl)) ?_
  intro W base args ds gs before hval0 hW hcnd _
  have hval : ∀ (j : Nat) t v, Try.f5.params[j]? = some t → args[j]? = some v → Value.okWide Try.prog W .any base t v := hval0
  have hW' := hW
  obtain ⟨p, q, hA0, hV, rfl, hfz, hnd⟩ := hW
  have hA : DataW.TrodAll enc Try.prog W 0 (fun _ => true) true Try.f5.params.toList args.toList ds p := hA0
  rw [Try.params5] at hA hval
  obtain ⟨v0, v1, d0, d1, p0, p1, rfl, rfl, rfl, q0, q1⟩ := trodAll_two hA
  obtain ⟨rfl, rfl⟩ := trodVars_none hV
  obtain ⟨a0, rfl, rfl, rfl, wa0⟩ := open_int Try.underlying3 (hval 0 3 v0 rfl rfl) q0
  have rg0 := rng_i64 wa0
  obtain ⟨a1, rfl, rfl, rfl, wa1⟩ := open_int Try.underlying3 (hval 1 3 v1 rfl rfl) q1
  have rg1 := rng_i64 wa1
  clear hA0 hval0
  refine (backoffGrows_walk a0 a1 W rg0).mono fun e W' ⟨he, hg⟩ => ?_
  subst he
  exact ⟨_, rfl, _, _, _, [], _, [], hW', trodAll_mk1 (shut_bool Try.underlying4 _), trodAll_mk2 (shut_int Try.underlying3 wa0) (shut_int Try.underlying3 wa1), rfl, hg.below.frame _, fun h => by cases h⟩

theorem backoffGrows_holds : Rows.BackoffGrowsSaid :=
  OpenClaim.holds_of_wide 5 Try.f5 rfl rfl rfl rfl rfl rfl rfl ⟨rfl, rfl, rfl, rfl, rfl⟩ rfl rfl rfl rfl rfl (by kernel_rfl) Try.func5 (by kernel_rfl)
    (of_decide_eq_true (by kernel_rfl)) (by unfold Func.isWrapper; first | (rw [if_pos (by decide +kernel)]; kernel_rfl) | (rw [if_neg (by decide +kernel)]; exact ⟨rfl, rfl⟩))
    (fun os started H enc _ => backoffGrows_lifted os started H enc)
end Go.Proofs.Ythbkfkolpiajhaa
