
/- For every input the law BackoffDelays answers true: any tries have the document's delay, from any time on. -/
import Derived.Test.YthbkfkolpiajhaaAwkO
import Derived.Test.YthbkfkolpiajhaaOpenO
namespace Go.Proofs.Ythbkfkolpiajhaa
open Go.ChangeShapes Go.WideShapes Go.ChangeAt Go.RowKit

set_option maxHeartbeats 4000000 in
set_option maxRecDepth 100000 in
theorem backoffDelays_walk (now n : Int) (w : World) :
    Calls Try.prog 3 #[.int .i64 now, .int .i64 n] w fun e w' => e = .returned (.bool true) ∧ Gr w w' := by
  have HA : Hid (Calls Try.prog 11 #[] w fun e w2 => e = .returned (.bool true) ∧ Gr w w2) := awake_any w
  have H1 : Hid (Calls Try.prog 7 #[.int .i64 now, .int .i64 n] w fun e w' => e = .returned (.tuple #[.int .i64 (Bo.nextE now n), .int .i64 (Bo.nextF now)]) ∧ w' = w) := next_any now n w
  have H2 : Hid (Calls Try.prog 8 #[.int .i64 now, .int .i64 n] w fun e w' => e = .returned (.tuple #[.int .i64 (Bo.nextE now n), .int .i64 (Bo.nextF now)]) ∧ w' = w) := refNext_any now n w
  have H3 : Hid (Calls Try.prog 9 #[.int .i64 n] w fun e w' => e = .returned (.int .i64 (Bo.delE n)) ∧ w' = w) := delay_any n w
  have H4 : Hid (Calls Try.prog 10 #[.int .i64 n] w fun e w' => e = .returned (.int .i64 (Bo.delE n)) ∧ w' = w) := refDelay_any n w
  generalize Bo.nextE now n = x at *
  generalize Bo.nextF now = y at *
  generalize Bo.delE n = d at *
  have e1 : (x == x) = true := by simp
  have e2 : (y == y) = true := by simp
  have e3 : (d == d) = true := by simp
  go_enter Try.func3, Try.ntmps3
  go_wp2_with fail
  refine H1.out.mono ?_
  rintro e w1 ⟨rfl, hww⟩; obtain rfl := hww.symm
  go_wp2_with fail
  refine H2.out.mono ?_
  rintro e w1 ⟨rfl, hww⟩; obtain rfl := hww.symm
  go_wp2_with fail
  refine H3.out.mono ?_
  rintro e w1 ⟨rfl, hww⟩; obtain rfl := hww.symm
  go_wp2_with fail
  refine H4.out.mono ?_
  rintro e w1 ⟨rfl, hww⟩; obtain rfl := hww.symm
  go_wp2_with fail
  refine HA.out.mono ?_
  rintro e w1 ⟨rfl, hg1⟩
  go_wp2
  go_ret
  exact ⟨rfl, hg1⟩

set_option maxRecDepth 100000 in
theorem backoffDelays_lifted (os : Os) (started : os.Started) (H : Type) (enc : TypeId × Value → H) :
    ReturnsInHanded {} Try.checked os 3 .any (Rows.backoffDelaysSpec.pre6 enc Try.prog Try.f3 Rows.backoffDelaysRow.domain false) (Rows.backoffDelaysSpec.post enc Try.prog Try.f3 false true false false) := by
  refine returnsInHanded_of_change (C := Try.checked) own2 started (by kernel_rfl) Try.func3
    (ChangeSpec.witness6 (enc := enc) (C := Try.checked) false ⟨#[], #[.int .i64 0, .int .i64 0], []⟩ 8 (by kernel_rfl) (by kernel_rfl) (by kernel_rfl) (by kernel_rfl)) ?_
  intro W base args ds gs before hval0 hW hcnd _
  have hval : ∀ (j : Nat) t v, Try.f3.params[j]? = some t → args[j]? = some v → Value.okWide Try.prog W .any base t v := hval0
  have hW' := hW
  obtain ⟨p, q, hA0, hV, rfl, hfz, hnd⟩ := hW
  have hA : DataW.TrodAll enc Try.prog W 0 (fun _ => true) true Try.f3.params.toList args.toList ds p := hA0
  rw [Try.params3] at hA hval
  obtain ⟨v0, v1, d0, d1, p0, p1, rfl, rfl, rfl, q0, q1⟩ := trodAll_two hA
  obtain ⟨rfl, rfl⟩ := trodVars_none hV
  obtain ⟨a0, rfl, rfl, rfl, wa0⟩ := open_int Try.underlying3 (hval 0 3 v0 rfl rfl) q0
  have rg0 := rng_i64 wa0
  obtain ⟨a1, rfl, rfl, rfl, wa1⟩ := open_int Try.underlying3 (hval 1 3 v1 rfl rfl) q1
  have rg1 := rng_i64 wa1
  clear hA0 hval0
  refine (backoffDelays_walk a0 a1 W).mono fun e W' ⟨he, hg⟩ => ?_
  subst he
  exact ⟨_, rfl, _, _, _, [], _, [], hW', trodAll_mk1 (shut_bool Try.underlying4 _), trodAll_mk2 (shut_int Try.underlying3 wa0) (shut_int Try.underlying3 wa1), rfl, hg.below.frame _, fun h => by cases h⟩

theorem backoffDelays_holds : Rows.BackoffDelaysSaid :=
  OpenClaim.holds_of_wide 3 Try.f3 rfl rfl rfl rfl rfl rfl rfl ⟨rfl, rfl, rfl, rfl, rfl⟩ rfl rfl rfl rfl rfl (by kernel_rfl) Try.func3 (by kernel_rfl)
    (of_decide_eq_true (by kernel_rfl)) (by unfold Func.isWrapper; first | (rw [if_pos (by decide +kernel)]; kernel_rfl) | (rw [if_neg (by decide +kernel)]; exact ⟨rfl, rfl⟩))
    (fun os started H enc _ => backoffDelays_lifted os started H enc)
end Go.Proofs.Ythbkfkolpiajhaa
