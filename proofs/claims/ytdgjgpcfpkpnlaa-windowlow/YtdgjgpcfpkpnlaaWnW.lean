
/- window: some answers that the document fixes. -/
import Derived.Test.YtdgjgpcfpkpnlaaWnL
namespace Go.Proofs.Ytdgjgpcfpkpnlaa
open Go.RowKit
open Wn (Wd)

theorem ints_lit1 (w : World) (x : Int) (t : TypeId) (g : Nat) (hg : g = w.heap.size) : IntsAt (w.alloc (.cells #[.int .i64 x] t)) (some ⟨g, 0, none⟩) [x] := by
  subst hg
  intro j hj
  match j, hj with
  | 0, _ => exact ⟨_, _, rfl, by simp, by simp⟩
theorem ints_lit5 (w : World) (a b c d e : Int) (t : TypeId) (g : Nat) (hg : g = w.heap.size) : IntsAt (w.alloc (.cells #[.int .i64 a, .int .i64 b, .int .i64 c, .int .i64 d, .int .i64 e] t)) (some ⟨g, 0, none⟩) [a, b, c, d, e] := by
  subst hg
  intro j hj
  match j, hj with
  | 0, _ => exact ⟨_, _, rfl, by simp, by simp⟩
  | 1, _ => exact ⟨_, _, rfl, by simp, by simp⟩
  | 2, _ => exact ⟨_, _, rfl, by simp, by simp⟩
  | 3, _ => exact ⟨_, _, rfl, by simp, by simp⟩
  | 4, _ => exact ⟨_, _, rfl, by simp, by simp⟩
theorem wd_one (w : World) (low x : Int) (h0 : 0 ≤ low) (h1 : low ≤ 100) (t : TypeId) (g : Nat) (hg : g = w.heap.size) : WdAt (w.alloc (.cells #[.int .i64 x] t)) (some ⟨g, 0, none⟩) 1 ⟨low, [x]⟩ :=
  ⟨ints_lit1 w x t g hg, by simp, by simp, (fun e => by cases e), by simp only; omega, by simp only; omega⟩
theorem wd_none (w : World) (low : Int) (h0 : 0 ≤ low) (h1 : low ≤ 100) : WdAt w none 0 ⟨low, []⟩ := ⟨IntsAt.nil, by simp, by simp, fun _ => rfl, by simp only; omega, by simp only; omega⟩
theorem ex1 : Wn.allF ⟨0, []⟩ 0 [1, 3, 2, 3, 5] = (⟨3, [5]⟩, 4, 0) := by kernel_rfl
theorem ex2 : Wn.take ⟨3, [5]⟩ 20 = (⟨0, []⟩, false, 180) := by kernel_rfl
theorem ex3 : Wn.take ⟨3, [5]⟩ 4 = (⟨5, []⟩, true, 0) := by kernel_rfl
theorem ex4 : mayE ⟨0, [1]⟩ = 2 := by kernel_rfl
set_option maxHeartbeats 8000000 in
set_option maxRecDepth 100000 in
theorem awake_any (w : World) : Calls Try.prog 6 #[] w fun e w' => e = .returned (.bool true) ∧ Gr w w' := by
  have H1 : Hid (∀ w1 al, IntsAt w1 al [1, 3, 2, 3, 5] → Calls Try.prog 15 #[wdV 0 none 0 0, .slice al 5 5] w1 fun e w2 => ∃ ad cap, e = .returned (.tuple #[wdV 3 ad 1 cap, .int .i64 4, .int .i64 0]) ∧ WdAt w2 ad cap ⟨3, [5]⟩ ∧ Gr w1 w2) := fun w1 al hl => by
    refine (all_any ⟨0, []⟩ none 0 [1, 3, 2, 3, 5] al 5 w1 (wd_zero w1) (by simp) hl (by simp)).mono ?_
    rintro e w2 ⟨ad, cap, he, hw, _, hg⟩
    rw [ex1] at he hw
    exact ⟨ad, cap, he, hw, hg⟩
  have H2 : Hid (∀ w1 ad cap, WdAt w1 ad cap ⟨3, [5]⟩ → Calls Try.prog 7 #[wdV 3 ad 1 cap, .int .i64 20] w1 fun e w2 => ∃ ad2 cap2, e = .returned (.tuple #[wdV 0 ad2 0 cap2, .bool false, .int .i64 180]) ∧ Gr w1 w2) := fun w1 ad cap hw => by
    refine (take_any ⟨3, [5]⟩ 20 ad cap w1 hw).mono ?_
    rintro e w2 ⟨ad2, cap2, he, _, _, hg⟩
    rw [ex2] at he
    exact ⟨ad2, cap2, he, hg⟩
  have H3 : Hid (∀ w1 ad cap, WdAt w1 ad cap ⟨3, [5]⟩ → Calls Try.prog 7 #[wdV 3 ad 1 cap, .int .i64 4] w1 fun e w2 => ∃ ad2 cap2, e = .returned (.tuple #[wdV 5 ad2 0 cap2, .bool true, .int .i64 0]) ∧ WdAt w2 ad2 cap2 ⟨5, []⟩ ∧ Gr w1 w2) := fun w1 ad cap hw => by
    refine (take_any ⟨3, [5]⟩ 4 ad cap w1 hw).mono ?_
    rintro e w2 ⟨ad2, cap2, he, hw2, _, hg⟩
    rw [ex3] at he hw2
    exact ⟨ad2, cap2, he, hw2, hg⟩
  have H4 : Hid (∀ w1 a1 a2 c1 c2, WdAt w1 a1 c1 ⟨3, [5]⟩ → WdAt w1 a2 c2 ⟨3, [5]⟩ → Calls Try.prog 11 #[wdV 3 a1 1 c1, wdV 3 a2 1 c2] w1 fun e w2 => e = .returned (.bool true) ∧ Gr w1 w2) := fun w1 a1 a2 c1 c2 h1 h2 => rsame_any ⟨3, [5]⟩ a1 a2 c1 c2 w1 h1 h2
  have H5 : Hid (∀ w1 a1 a2 c1 c2, WdAt w1 a1 c1 ⟨5, []⟩ → WdAt w1 a2 c2 ⟨5, []⟩ → Calls Try.prog 11 #[wdV 5 a1 0 c1, wdV 5 a2 0 c2] w1 fun e w2 => e = .returned (.bool true) ∧ Gr w1 w2) := fun w1 a1 a2 c1 c2 h1 h2 => rsame_any ⟨5, []⟩ a1 a2 c1 c2 w1 h1 h2
  have H6 : Hid (∀ w1 ad cap, WdAt w1 ad cap ⟨0, [1]⟩ → Calls Try.prog 9 #[wdV 0 ad 1 cap] w1 fun e w2 => e = .returned (.int .i64 2) ∧ Gr w1 w2) := fun w1 ad cap hw => by
    have := may_any ⟨0, [1]⟩ ad cap w1 hw
    rw [ex4] at this
    exact this
  go_enter Try.func6, Try.ntmps6
  go_wp2_with fail
  refine (H1.out _ _ (ints_lit5 _ _ _ _ _ _ _ _ rfl)).mono ?_
  rintro e w1 ⟨ad1, cap1, rfl, hw1, hg1⟩
  have W1 := Lib.hid hw1
  have G1 := Lib.hid ((Gr.refl w).alloc.trans hg1)
  clear hw1 hg1
  go_wp2_with fail
  refine (H2.out _ _ _ (W1.out.gr (Gr.refl _).alloc)).mono ?_
  rintro e w2 ⟨ad2, cap2, rfl, hg2⟩
  obtain ⟨k0, k1, _, _, _⟩ := (Bx2.new w1 (.int .i64 3) (.slice ad1 1 cap1) 24 _ rfl).gr hg2
  have W2 := Lib.hid ((W1.out.gr (Gr.refl _).alloc).gr hg2)
  have B2 := Lib.hid ((Bx2.new w1 (.int .i64 3) (.slice ad1 1 cap1) 24 _ rfl).gr hg2)
  have G2 := Lib.hid (G1.out.alloc.trans hg2)
  clear hg2
  go_wp2_with fail
  refine (H3.out _ _ _ (W2.out.gr (Gr.refl _).alloc)).mono ?_
  rintro e w3 ⟨ad3, cap3, rfl, hw3, hg3⟩
  have W3 := Lib.hid ((W2.out.gr (Gr.refl _).alloc).gr hg3)
  have V3 := Lib.hid hw3
  have B3 := Lib.hid ((B2.out.gr (Gr.refl _).alloc).gr hg3)
  have G3 := Lib.hid (G2.out.alloc.trans hg3)
  obtain ⟨k0, k1, _, _, kl⟩ := B3.out
  clear hg3 hw3
  go_wp2_with fail
  refine (H4.out _ _ _ _ _ ((W3.out.gr (Gr.refl _).alloc).gr (Gr.refl _).alloc) (wd_one _ 3 5 (by omega) (by omega) _ _ (by simp))).mono ?_
  rintro e w4 ⟨rfl, hg4⟩
  have G4 := Lib.hid (G3.out.alloc.alloc.trans hg4)
  have V4 := Lib.hid (((V3.out.gr (Gr.refl _).alloc).gr (Gr.refl _).alloc).gr hg4)
  obtain ⟨m0, m1, _, _, _⟩ := ((Bx2.new w3 (.int .i64 5) (.slice ad3 0 cap3) 24 _ rfl).gr (Gr.refl _).alloc).gr hg4
  clear hg4 k0 k1 kl
  go_wp2_with fail
  refine (H5.out _ _ _ _ _ V4.out (wd_none _ 5 (by omega) (by omega))).mono ?_
  rintro e w5 ⟨rfl, hg5⟩
  have G5 := Lib.hid (G4.out.trans hg5)
  clear hg5 m0 m1
  go_wp2_with fail
  refine (H6.out _ _ _ (wd_one _ 0 1 (by omega) (by omega) _ _ rfl)).mono ?_
  rintro e w6 ⟨rfl, hg6⟩
  have G6 := Lib.hid (G5.out.alloc.trans hg6)
  clear hg6
  go_wp2
  go_ret
  exact ⟨rfl, G6.out⟩
end Go.Proofs.Ytdgjgpcfpkpnlaa
