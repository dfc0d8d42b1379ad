/- cash: sums and products. -/
import Derived.Test.YtiakajheoajepaaIntA
import Derived.Test.YtiakajheoajepaaCashT
namespace Go.Proofs.Ytiakajheoajepaa
open Go.RowKit

theorem up_shift (a : Int) (h0 : -9223372036854775808 ≤ a) (h1 : a ≤ 9223372036854775807) : IntKind.u64.wrap (a / 9223372036854775808) = Csh.up a := by
  rw [IntKind.wrap_u64]; unfold Csh.up; split <;> omega
theorem wrap_sgn (n : Int) : wrap64 n = Csh.sgn n := by unfold wrap64 Csh.sgn; omega

theorem upper_any (a : Int) (w : World) (h0 : -9223372036854775808 ≤ a) (h1 : a ≤ 9223372036854775807) :
    Calls Try.prog 91 #[.int .i64 a] w fun e w' => e = .returned (.int .u64 (Csh.up a)) ∧ w' = w := by
  have HE : Hid (IntKind.u64.wrap (a / 9223372036854775808) = Csh.up a) := up_shift a h0 h1
  go_enter Try.func91, Try.ntmps91
  go_wp2
  go_ret
  exact ⟨by rw [← HE.out]; rfl, rfl⟩

theorem narrow_any (s : Int) (w : World) (h0 : -85070591730234615865843651857942052864 ≤ s) (h1 : s ≤ 85070591730234615865843651857942052864) :
    Calls Try.prog 92 #[.int .u64 (Csh.highE s), .int .u64 (Csh.lowE s)] w fun e w' => e = .returned (.tuple #[.int .i64 (Csh.valE s), .int .i64 (Csh.errE s)]) ∧ w' = w := by
  have hr := Csh.sgn_rng (Csh.lowE s)
  have HU : Hid (Calls Try.prog 91 #[.int .i64 (Csh.sgn (Csh.lowE s))] w fun e w' => e = .returned (.int .u64 (Csh.up (Csh.sgn (Csh.lowE s)))) ∧ w' = w) := upper_any (Csh.sgn (Csh.lowE s)) w hr.1 hr.2
  have hw := wrap_sgn (Csh.lowE s)
  by_cases h : Csh.okB s = true
  · obtain ⟨e1, e2⟩ := Csh.narrow_yes s h
    have e3 : Csh.valE s = s := by unfold Csh.valE; rw [if_pos h]
    have e4 : Csh.errE s = 0 := by unfold Csh.errE; rw [if_pos h]
    rw [e3, e4, e1]
    rw [e2] at HU hw ⊢
    have hne : (Csh.up s != Csh.up s) = false := by simp
    generalize Csh.lowE s = l at *
    generalize Csh.up s = u at *
    clear h0 h1 h e1 e2 e3 e4 hr
    go_enter Try.func92, Try.ntmps92
    go_wp2_with fail
    refine HU.out.mono ?_
    rintro e w1 ⟨rfl, hw1⟩; obtain rfl := hw1.symm
    go_wp2
    go_ret2
    exact ⟨rfl, rfl⟩
  · have h' : Csh.okB s = false := by simpa using h
    have e1 := Csh.narrow_no s h' h0 h1
    have e3 : Csh.valE s = 0 := by unfold Csh.valE; rw [if_neg h]
    have e4 : Csh.errE s = 40 := by unfold Csh.errE; rw [if_neg h]
    rw [e3, e4]
    have hne : (Csh.highE s != Csh.up (Csh.sgn (Csh.lowE s))) = true := by simpa using e1
    generalize Csh.up (Csh.sgn (Csh.lowE s)) = u at *
    generalize Csh.sgn (Csh.lowE s) = t at *
    generalize Csh.lowE s = l at *
    generalize Csh.highE s = m at *
    clear h0 h1 h e1 e3 e4 hr h'
    go_enter Try.func92, Try.ntmps92
    go_wp2_with fail
    refine HU.out.mono ?_
    rintro e w1 ⟨rfl, hw1⟩; obtain rfl := hw1.symm
    go_wp2
    go_ret2
    exact ⟨rfl, rfl⟩

theorem fits_any (a : Int) (w : World) :
    Calls Try.prog 50 #[.int .i64 a] w fun e w' => e = .returned (.bool (decide (0 ≤ a) && decide (a ≤ 1000000000000000))) ∧ w' = w := by
  by_cases h0 : 0 ≤ a
  · by_cases h1 : a ≤ 1000000000000000
    · have HF : Hid ((decide (0 ≤ a) && decide (a ≤ 1000000000000000)) = true) := by show _ = _; simp [h0, h1]
      rw [HF.out]
      go_enter Try.func50, Try.ntmps50
      go_wp2
      go_ret
      exact ⟨rfl, rfl⟩
    · have HF : Hid ((decide (0 ≤ a) && decide (a ≤ 1000000000000000)) = false) := by show _ = _; simp [h1]
      rw [HF.out]
      go_enter Try.func50, Try.ntmps50
      go_wp2
      go_ret
      exact ⟨rfl, rfl⟩
  · have HF : Hid ((decide (0 ≤ a) && decide (a ≤ 1000000000000000)) = false) := by show _ = _; simp [h0]
    rw [HF.out]
    go_enter Try.func50, Try.ntmps50
    go_wp2
    go_ret
    exact ⟨rfl, rfl⟩
end Go.Proofs.Ytiakajheoajepaa
