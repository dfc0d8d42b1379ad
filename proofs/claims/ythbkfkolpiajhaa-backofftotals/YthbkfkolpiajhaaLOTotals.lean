
/- For every input the law BackoffTotals answers true: any tries' delays are together what the document says; into any span as many fit. -/
import Derived.Test.YthbkfkolpiajhaaAwkO
import Derived.Test.YthbkfkolpiajhaaOpenO
namespace Go.Proofs.Ythbkfkolpiajhaa
open Go.ChangeShapes Go.WideShapes Go.ChangeAt Go.RowKit

set_option maxHeartbeats 4000000 in
set_option maxRecDepth 100000 in
theorem backoffTotals_walk (l : List Int) (ad : Option Addr) (cap : Nat) (s : Int) (w : World) (hL : IntsAt w ad l) (hn : l.length ≤ 9223372036854775807) (h0 : -9223372036854775808 ≤ s) :
    Calls Try.prog 4 #[.slice ad l.length cap, .int .i64 s] w fun e w' => e = .returned (.bool true) ∧ Gr w w' := by
  have HA : Hid (Calls Try.prog 11 #[] w fun e w2 => e = .returned (.bool true) ∧ Gr w w2) := awake_any w
  have H1 : Hid (Calls Try.prog 12 #[.slice ad l.length cap] w fun e w' => e = .returned (.tuple #[.int .i64 (Bo.totE l), .int .i64 (Bo.totF l)]) ∧ w' = w) := total_any l ad cap w hL hn
  have H2 : Hid (Calls Try.prog 13 #[.slice ad l.length cap] w fun e w' => e = .returned (.tuple #[.int .i64 (Bo.totE l), .int .i64 (Bo.totF l)]) ∧ w' = w) := refTotal_any l ad cap w hL hn
  have H3 : Hid (Calls Try.prog 14 #[.int .i64 s] w fun e w' => e = .returned (.int .i64 (Bo.withE s)) ∧ w' = w) := within_any s w h0
  have H4 : Hid (Calls Try.prog 15 #[.int .i64 s] w fun e w' => e = .returned (.int .i64 (Bo.withE s)) ∧ w' = w) := refWithin_any s w h0
  generalize Bo.totE l = x at *
  generalize Bo.totF l = y at *
  generalize Bo.withE s = d at *
  have e1 : (x == x) = true := by simp
  have e2 : (y == y) = true := by simp
  have e3 : (d == d) = true := by simp
  clear hL
  go_enter Try.func4, Try.ntmps4
  go_wp2_with fail
  refine H1.out.mono ?_
  rintro e w1 ⟨rfl, hww⟩; obtain rfl := hww.symm
  go_wp2_with fail
  refine H2.out.mono ?_
  rintro e w1 ⟨rfl, hww⟩; obtain rfl := hww.symm
  go_wp2_with fail
  refine H3.out.mono ?_
  rintro e w1 ⟨rfl, hww⟩; obtain rfl := hww.symm
  go_wp2_with fail
  refine H4.out.mono ?_
  rintro e w1 ⟨rfl, hww⟩; obtain rfl := hww.symm
  go_wp2_with fail
  refine HA.out.mono ?_
  rintro e w1 ⟨rfl, hg1⟩
  go_wp2
  go_ret
  exact ⟨rfl, hg1⟩

set_option maxRecDepth 100000 in
theorem backoffTotals_lifted (os : Os) (started : os.Started) (H : Type) (enc : TypeId × Value → H) :
    ReturnsInHanded {} Try.checked os 4 .any (Rows.backoffTotalsSpec.pre6 enc Try.prog Try.f4 Rows.backoffTotalsRow.domain false) (Rows.backoffTotalsSpec.post enc Try.prog Try.f4 false true false false) := by
  refine returnsInHanded_of_change (C := Try.checked) own2 started (by kernel_rfl) Try.func4
    (ChangeSpec.witness6 (enc := enc) (C := Try.checked) false ⟨#[], #[.slice none 0 0, .int .i64 0], []⟩ 8 (by kernel_rfl) (by kernel_rfl) (by kernel_rfl) (by kernel_rfl)) ?_
  intro W base args ds gs before hval0 hW hcnd _
  have hval : ∀ (j : Nat) t v, Try.f4.params[j]? = some t → args[j]? = some v → Value.okWide Try.prog W .any base t v := hval0
  have hW' := hW
  obtain ⟨p, q, hA0, hV, rfl, hfz, hnd⟩ := hW
  have hA : DataW.TrodAll enc Try.prog W 0 (fun _ => true) true Try.f4.params.toList args.toList ds p := hA0
  rw [Try.params4] at hA hval
  obtain ⟨v0, v1, d0, d1, p0, p1, rfl, rfl, rfl, q0, q1⟩ := trodAll_two hA
  obtain ⟨rfl, rfl⟩ := trodVars_none hV
  have k0 := q0
  have lt0 : ∀ x ∈ p0, x.block < W.heap.size := by obtain ⟨m, hm⟩ := k0; exact DataW.trod_lt m _ _ _ hm
  obtain ⟨ad0, cap0, L0, rfl, hL0, hn0, hc0, hr0, hz0⟩ := open_row (hval 0 30 v0 rfl rfl) q0
  obtain ⟨a1, rfl, rfl, rfl, wa1⟩ := open_int Try.underlying3 (hval 1 3 v1 rfl rfl) q1
  have rg1 := rng_i64 wa1
  clear hA0 hval0
  refine (backoffTotals_walk L0 ad0 cap0 a1 W hL0 hn0 rg1.1).mono fun e W' ⟨he, hg⟩ => ?_
  subst he
  exact ⟨_, rfl, _, _, _, [], _, [], hW', trodAll_mk1 (shut_bool Try.underlying4 _), trodAll_mk2 (Below.trod laidOut2 (by kernel_rfl) (of_decide_eq_true (by kernel_rfl)) k0 hg.below lt0) (shut_int Try.underlying3 wa1), rfl, hg.below.frame _, fun h => by cases h⟩

theorem backoffTotals_holds : Rows.BackoffTotalsSaid :=
  OpenClaim.holds_of_wide 4 Try.f4 rfl rfl rfl rfl rfl rfl rfl ⟨rfl, rfl, rfl, rfl, rfl⟩ rfl rfl rfl rfl rfl (by kernel_rfl) Try.func4 (by kernel_rfl)
    (of_decide_eq_true (by kernel_rfl)) (by unfold Func.isWrapper; first | (rw [if_pos (by decide +kernel)]; kernel_rfl) | (rw [if_neg (by decide +kernel)]; exact ⟨rfl, rfl⟩))
    (fun os started H enc _ => backoffTotals_lifted os started H enc)
end Go.Proofs.Ythbkfkolpiajhaa
