
/- For every input the law BackoffFits answers true: the delays that fit into a span are together no longer, and one more is. -/
import Derived.Test.YthbkfkolpiajhaaAwkO
import Derived.Test.YthbkfkolpiajhaaOpenO
namespace Go.Proofs.Ythbkfkolpiajhaa
open Go.ChangeShapes Go.WideShapes Go.ChangeAt Go.RowKit

set_option maxHeartbeats 4000000 in
set_option maxRecDepth 100000 in
theorem backoffFits_walk (s : Int) (w : World) (h0 : -9223372036854775808 ≤ s) :
    Calls Try.prog 6 #[.int .i64 s] w fun e w' => e = .returned (.bool true) ∧ Gr w w' := by
  have HA : Hid (Calls Try.prog 11 #[] w fun e w2 => e = .returned (.bool true) ∧ Gr w w2) := awake_any w
  by_cases h1 : s < 0
  · go_enter Try.func6, Try.ntmps6
    go_wp2_with fail
    refine HA.out.mono ?_
    rintro e w1 ⟨rfl, hg1⟩
    go_wp2
    go_ret
    exact ⟨rfl, hg1⟩
  · by_cases h2 : 5000 < s
    · go_enter Try.func6, Try.ntmps6
      go_wp2_with fail
      refine HA.out.mono ?_
      rintro e w1 ⟨rfl, hg1⟩
      go_wp2
      go_ret
      exact ⟨rfl, hg1⟩
    · have hw := Bo.with_is (s := s) (by omega)
      obtain ⟨f1, f2, f3, f4⟩ := Bo.in_fits s (by omega)
      have H1 : Hid (Calls Try.prog 14 #[.int .i64 s] w fun e w' => e = .returned (.int .i64 (Bo.withE s)) ∧ w' = w) := within_any s w h0
      rw [hw] at H1
      obtain ⟨n, hn⟩ : ∃ n : Nat, Bo.inE s = n := ⟨_, (Int.toNat_of_nonneg f1).symm⟩
      rw [hn] at H1 f2 f3 f4
      rw [Int.toNat_natCast] at f3 f4
      have HD : Hid (∀ k : Int, Calls Try.prog 9 #[.int .i64 k] w fun e w' => e = .returned (.int .i64 (Bo.delE k)) ∧ w' = w) := fun k => delay_any k w
      clear hw f1 hn
      go_enter Try.func6, Try.ntmps6
      go_wp2_with fail
      refine H1.out.mono ?_
      rintro e w1 ⟨rfl, hww⟩; obtain rfl := hww.symm
      go_wp2
      go_loop [4, 5] (fun t i => ∃ k : Nat, k ≤ n ∧ i = .int .i64 k ∧ t = .int .i64 (Bo.firstE k)) (fun _ i => n - (intOf i).toNat)
      case atStart => exact ⟨0, by omega, rfl, rfl⟩
      case round =>
        obtain ⟨k, hk, rfl, rfl⟩ := hrel
        by_cases hlt : k < n
        · have hlt' : (k : Int) < (n : Int) := by omega
          have HK : Hid (Calls Try.prog 9 #[.int .i64 (k : Int)] w fun e w' => e = .returned (.int .i64 (Bo.delE k)) ∧ w' = w) := HD.out _
          have HS : Hid (Bo.firstE (k + 1) = Bo.firstE k + Bo.delE k) := rfl
          have hr := Bo.first_range k
          have hd := Bo.del_range k
          generalize Bo.delE (k : Int) = d at *
          generalize Bo.firstE k = f at *
          go_wp2_with fail
          refine HK.out.mono ?_
          rintro e w1 ⟨rfl, hww⟩; obtain rfl := hww.symm
          go_wp2
          go_round
          case rel => exact ⟨k + 1, by omega, by go_num, by rw [HS.out]⟩
          case measure => simp [intOf]; omega
        · obtain rfl : k = n := by omega
          have HK : Hid (Calls Try.prog 9 #[.int .i64 (k : Int)] w fun e w' => e = .returned (.int .i64 (Bo.delE k)) ∧ w' = w) := HD.out _
          have hf : s < Bo.firstE k + Bo.delE k := f4
          have hd := Bo.del_range k
          have hr := Bo.first_range k
          clear f4
          generalize Bo.delE (k : Int) = d at *
          generalize Bo.firstE k = f at *
          go_wp2_with fail
          refine HK.out.mono ?_
          rintro e w1 ⟨rfl, hww⟩; obtain rfl := hww.symm
          go_wp2_with fail
          refine HA.out.mono ?_
          rintro e w1 ⟨rfl, hg1⟩
          go_wp2
          go_ret
          exact ⟨rfl, hg1⟩

set_option maxRecDepth 100000 in
theorem backoffFits_lifted (os : Os) (started : os.Started) (H : Type) (enc : TypeId × Value → H) :
    ReturnsInHanded {} Try.checked os 6 .any (Rows.backoffFitsSpec.pre6 enc Try.prog Try.f6 Rows.backoffFitsRow.domain false) (Rows.backoffFitsSpec.post enc Try.prog Try.f6 false true false false) := by
  refine returnsInHanded_of_change (C := Try.checked) own2 started (by kernel_rfl) Try.func6
    (ChangeSpec.witness6 (enc := enc) (C := Try.checked) false ⟨#[], #[.int .i64 0], []⟩ 8 (by kernel_rfl) (by kernel_rfl) (by kernel_rfl) (by kernel_rfl)) ?_
  intro W base args ds gs before hval0 hW hcnd _
  have hval : ∀ (j : Nat) t v, Try.f6.params[j]? = some t → args[j]? = some v → Value.okWide Try.prog W .any base t v := hval0
  have hW' := hW
  obtain ⟨p, q, hA0, hV, rfl, hfz, hnd⟩ := hW
  have hA : DataW.TrodAll enc Try.prog W 0 (fun _ => true) true Try.f6.params.toList args.toList ds p := hA0
  rw [Try.params6] at hA hval
  obtain ⟨v0, d0, rfl, rfl, q0⟩ := trodAll_one hA
  obtain ⟨rfl, rfl⟩ := trodVars_none hV
  obtain ⟨a0, rfl, rfl, rfl, wa0⟩ := open_int Try.underlying3 (hval 0 3 v0 rfl rfl) q0
  have rg0 := rng_i64 wa0
  clear hA0 hval0
  refine (backoffFits_walk a0 W rg0.1).mono fun e W' ⟨he, hg⟩ => ?_
  subst he
  exact ⟨_, rfl, _, _, _, [], _, [], hW', trodAll_mk1 (shut_bool Try.underlying4 _), trodAll_mk1 (shut_int Try.underlying3 wa0), rfl, hg.below.frame _, fun h => by cases h⟩

theorem backoffFits_holds : Rows.BackoffFitsSaid :=
  OpenClaim.holds_of_wide 6 Try.f6 rfl rfl rfl rfl rfl rfl rfl ⟨rfl, rfl, rfl, rfl, rfl⟩ rfl rfl rfl rfl rfl (by kernel_rfl) Try.func6 (by kernel_rfl)
    (of_decide_eq_true (by kernel_rfl)) (by unfold Func.isWrapper; first | (rw [if_pos (by decide +kernel)]; kernel_rfl) | (rw [if_neg (by decide +kernel)]; exact ⟨rfl, rfl⟩))
    (fun os started H enc _ => backoffFits_lifted os started H enc)
end Go.Proofs.Ythbkfkolpiajhaa
