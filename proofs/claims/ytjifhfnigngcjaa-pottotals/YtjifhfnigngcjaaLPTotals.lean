/- For every input the law PotTotals answers true: any pots have together what the document says, or no sum. -/
import Derived.Test.YtjifhfnigngcjaaPotK
import Derived.Test.YtjifhfnigngcjaaPotT
import Derived.Test.YtjifhfnigngcjaaOpenP
namespace Go.Proofs.Ytjifhfnigngcjaa
open Go.ChangeShapes Go.WideShapes Go.ChangeAt Go.RowKit

set_option maxHeartbeats 4000000 in
set_option maxRecDepth 100000 in
theorem potTotals_walk (T : List Three) (ad : Option Addr) (cap : Nat) (w : World) (hT : PotsAt w ad T) (hn : T.length ≤ 9223372036854775807) (hr : ∀ t ∈ T, inB t.h t.i t.o) :
    Calls Try.prog 5 #[.slice ad T.length cap] w fun e w' => e = .returned (.bool true) ∧ Gr w w' := by
  have HA : Hid (∀ w', Calls Try.prog 15 #[] w' fun e w2 => e = .returned (.bool true) ∧ Gr w' w2) := fun w' => awake_any w'
  by_cases hl : 5000 < T.length
  · have hl' : 5000 < (T.length : Int) := by omega
    clear hT hr
    go_enter Try.func5, Try.ntmps5
    go_wp2_with fail
    refine (HA.out _).mono ?_
    rintro e w1 ⟨rfl, hg1⟩
    go_wp2
    go_ret
    exact ⟨rfl, (by repeat (first | exact Gr.refl _ | refine Gr.alloc ?_ | refine Gr.drew ?_ | refine Gr.trans ?_ (by assumption)))⟩
  · have H1 : Hid (Calls Try.prog 22 #[.slice ad T.length cap] w fun e w' => e = .returned (.tuple #[.int .i64 (totV T), .int .i64 (totE T)]) ∧ Gr w w') := total_any T ad cap w hT (by omega) (fun t ht => ⟨(hr t ht).1, (hr t ht).2.2.2⟩)
    have H2 : Hid (∀ w', Gr w w' → Calls Try.prog 23 #[.slice ad T.length cap] w' fun e w2 => e = .returned (.tuple #[.int .i64 (totV T), .int .i64 (totE T)]) ∧ Gr w' w2) := fun w' g => refTotal_any T ad cap w' (hT.gr g) (by omega) (fun t ht => ⟨(hr t ht).1, (hr t ht).2.2.2⟩)
    have hl' : ¬ (5000 < (T.length : Int)) := by omega
    generalize totV T = x at *
    generalize totE T = y at *
    have e1 : (x == x) = true := by simp
    have e2 : (y == y) = true := by simp
    clear hT hr
    go_enter Try.func5, Try.ntmps5
    go_wp2_with fail
    refine H1.out.mono ?_
    rintro e w1 ⟨rfl, hg1⟩
    go_wp2_with fail
    refine (H2.out _ hg1).mono ?_
    rintro e w2 ⟨rfl, hg2⟩
    go_wp2_with fail
    refine (HA.out _).mono ?_
    rintro e w3 ⟨rfl, hg3⟩
    go_wp2
    go_ret
    exact ⟨rfl, (by repeat (first | exact Gr.refl _ | refine Gr.alloc ?_ | refine Gr.drew ?_ | refine Gr.trans ?_ (by assumption)))⟩

set_option maxRecDepth 100000 in
theorem potTotals_lifted (os : Os) (started : os.Started) (H : Type) (enc : TypeId × Value → H) :
    ReturnsInHanded {} Try.checked os 5 .any (Rows.potTotalsSpec.pre6 enc Try.prog Try.f5 Rows.potTotalsRow.domain false) (Rows.potTotalsSpec.post enc Try.prog Try.f5 false true false false) := by
  refine returnsInHanded_of_change (C := Try.checked) own2 started (by kernel_rfl) Try.func5
    (ChangeSpec.witness6 (enc := enc) (C := Try.checked) false ⟨#[], #[.slice none 0 0], []⟩ 8 (by kernel_rfl) (by kernel_rfl) (by kernel_rfl) (by kernel_rfl)) ?_
  intro W base args ds gs before hval0 hW hcnd _
  have hval : ∀ (j : Nat) t v, Try.f5.params[j]? = some t → args[j]? = some v → Value.okWide Try.prog W .any base t v := hval0
  have hW' := hW
  obtain ⟨p, q, hA0, hV, rfl, hfz, hnd⟩ := hW
  have hA : DataW.TrodAll enc Try.prog W 0 (fun _ => true) true Try.f5.params.toList args.toList ds p := hA0
  rw [Try.params5] at hA hval
  obtain ⟨v0, d0, rfl, rfl, q0⟩ := trodAll_one hA
  obtain ⟨rfl, rfl⟩ := trodVars_none hV
  have k0 := q0
  have lt0 : ∀ x ∈ p, x.block < W.heap.size := by obtain ⟨m, hm⟩ := k0; exact DataW.trod_lt m _ _ _ hm
  obtain ⟨ad0, cap0, T0, rfl, hT0, hn0, hr0⟩ := open_pots (hval 0 35 v0 rfl rfl) q0
  clear hA0 hval0
  refine (potTotals_walk T0 ad0 cap0 W hT0 hn0 hr0).mono fun e W' ⟨he, hg⟩ => ?_
  subst he
  exact ⟨_, rfl, _, _, _, [], _, [], hW', trodAll_mk1 (shut_bool Try.underlying4 _), trodAll_mk1 (Below.trod laidOut2 (by kernel_rfl) (of_decide_eq_true (by kernel_rfl)) k0 hg.below lt0), rfl, hg.below.frame _, fun h => by cases h⟩

theorem potTotals_holds : Rows.PotTotalsSaid :=
  OpenClaim.holds_of_wide 5 Try.f5 rfl rfl rfl rfl rfl rfl rfl ⟨rfl, rfl, rfl, rfl, rfl⟩ rfl rfl rfl rfl rfl (by kernel_rfl) Try.func5 (by kernel_rfl)
    (of_decide_eq_true (by kernel_rfl)) (by unfold Func.isWrapper; first | (rw [if_pos (by decide +kernel)]; kernel_rfl) | (rw [if_neg (by decide +kernel)]; exact ⟨rfl, rfl⟩))
    (fun os started H enc _ => potTotals_lifted os started H enc)
end Go.Proofs.Ytjifhfnigngcjaa
