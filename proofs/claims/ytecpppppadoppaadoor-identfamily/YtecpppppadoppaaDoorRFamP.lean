/- the document's Parent. -/
import Derived.Test.YtecpppppadoppaaDoorRChkP
import Derived.Test.YtecpppppadoppaaDoorParP
namespace Go.Proofs.YtecpppppadoppaaDoor
open Go.RowKit

set_option maxHeartbeats 1000000 in
set_option maxRecDepth 100000 in
theorem refParent_no (r n : Int) (L : List (Int × Int)) (ad : Option Addr) (cap : Nat) (w : World) (hL : HopsAt w ad L) (hn : L.length ≤ 9223372036854775807) (hm : Idn.mayB r n L = false ∨ L = []) :
    Calls Tryd.prog 19 #[.agg #[.int .i64 r, .int .i64 n, .slice ad L.length cap]] w fun e w' => e = .returned (.tuple #[.agg #[.int .i64 0, .int .i64 0, .slice none 0 0], .int .i64 0, .bool false]) ∧ Gr w w' := by
  have HC : Hid (∀ w', Gr w w' → Calls Tryd.prog 10 #[.agg #[.int .i64 r, .int .i64 n, .slice ad L.length cap]] w' fun e w2 => e = .returned (.int .i64 (errB (Idn.mayB r n L))) ∧ Gr w' w2) := fun w' g => refCheck_any r n L ad cap w' (hL.gr g) hn
  clear hL
  by_cases h1 : Idn.mayB r n L = false
  · rw [h1, show errB false = 30 from rfl] at HC
    clear h1 hm
    go_enter Tryd.func19, Tryd.ntmps19
    go_wp2_with fail
    refine (HC.out _ (by repeat (first | exact Gr.refl _ | refine Gr.alloc ?_ | refine Gr.drew ?_ | refine Gr.trans ?_ (by assumption)))).mono ?_
    rintro e1 w1 ⟨rfl, hg1⟩
    obtain ⟨hc1, hf1⟩ := hg1.cells
    go_wp2
    exact bodyPost_ret (v := .tuple #[.agg #[.int .i64 0, .int .i64 0, .slice none 0 0], .int .i64 0, .bool false]) (by simp [results, Tryd.results19, go_sem, hc1]) rfl ⟨rfl, (by (repeat' (first | with_reducible exact Gr.refl _ | with_reducible refine Gr.set ?_ _ ?_ _ | with_reducible refine Gr.alloc ?_ | with_reducible refine Gr.drew ?_ | with_reducible refine Gr.trans ?_ (by assumption))) <;> (first | (simp; done) | (simp; omega) | omega))⟩
  · have h2 : Idn.mayB r n L = true := by simpa using h1
    obtain rfl : L = [] := by
      rcases hm with h | h
      · exact absurd h h1
      · exact h
    rw [h2, show errB true = 0 from rfl] at HC
    clear h1 hm h2
    go_enter Tryd.func19, Tryd.ntmps19
    go_wp2_with fail
    refine (HC.out _ (by repeat (first | exact Gr.refl _ | refine Gr.alloc ?_ | refine Gr.drew ?_ | refine Gr.trans ?_ (by assumption)))).mono ?_
    rintro e1 w1 ⟨rfl, hg1⟩
    obtain ⟨hc1, hf1⟩ := hg1.cells
    go_wp2
    exact bodyPost_ret (v := .tuple #[.agg #[.int .i64 0, .int .i64 0, .slice none 0 0], .int .i64 0, .bool false]) (by simp [results, Tryd.results19, go_sem, hc1]) rfl ⟨rfl, (by (repeat' (first | with_reducible exact Gr.refl _ | with_reducible refine Gr.set ?_ _ ?_ _ | with_reducible refine Gr.alloc ?_ | with_reducible refine Gr.drew ?_ | with_reducible refine Gr.trans ?_ (by assumption))) <;> (first | (simp; done) | (simp; omega) | omega))⟩

set_option maxHeartbeats 8000000 in
set_option maxRecDepth 100000 in
theorem refParent_yes (r n s o : Int) (M : List (Int × Int)) (b off : Nat) (cap : Nat) (w : World) (hL : HopsAt w (some ⟨b, off, none⟩) (M ++ [(s, o)])) (hcap : M.length + 1 ≤ cap) (hm : Idn.mayB r n (M ++ [(s, o)]) = true) (h4 : M.length ≤ 3) :
    Calls Tryd.prog 19 #[.agg #[.int .i64 r, .int .i64 n, .slice (some ⟨b, off, none⟩) (M.length + 1) cap]] w fun e w' =>
      ∃ ad2 cap2, e = .returned (.tuple #[.agg #[.int .i64 r, .int .i64 n, .slice ad2 M.length cap2], .int .i64 s, .bool true]) ∧ M.length ≤ cap2 ∧ HopsAt w' ad2 M ∧ Gr w w' := by
  have HC : Hid (∀ w', Gr w w' → Calls Tryd.prog 10 #[.agg #[.int .i64 r, .int .i64 n, .slice (some ⟨b, off, none⟩) (M.length + 1) cap]] w' fun e w2 => e = .returned (.int .i64 0) ∧ Gr w' w2) := by
    intro w' g
    have := refCheck_any r n (M ++ [(s, o)]) (some ⟨b, off, none⟩) cap w' (hL.gr g) (by simp; omega)
    rw [hm, List.length_append] at this
    exact this
  have HM : Hid (HopsAt w (some ⟨b, off, none⟩) M) := by
    have := hL.take M.length
    rw [List.take_left] at this
    exact this
  obtain ⟨b', off', e, hbl, hc, _⟩ := hL M.length (by simp)
  simp at e
  obtain ⟨rfl, rfl⟩ := e
  simp at hc
  have hne : (((M.length : Int) + 1) == 0) = false := by rw [beq_eq_false_iff_ne]; omega
  have hm1 : (M.length : Int) ≤ cap := by omega
  have hm0 : (0 : Int) ≤ M.length := by omega
  have hlt : (M.length : Int) < M.length + 1 := by omega
  have hwr : IntKind.i64.wrap ((M.length : Int) + 1 - 1) = M.length := by rw [IntKind.wrap_i64]; omega
  have hwr2 : IntKind.i64.wrap (M.length : Int) = M.length := by rw [IntKind.wrap_i64]; omega
  clear hL hm
  go_enter Tryd.func19, Tryd.ntmps19
  go_wp2_with fail
  refine (HC.out _ (by repeat (first | exact Gr.refl _ | refine Gr.alloc ?_ | refine Gr.drew ?_ | refine Gr.trans ?_ (by assumption)))).mono ?_
  rintro e1 w1 ⟨rfl, hg1⟩
  have p0 : w1.cell? ⟨w.heap.size, 0, none⟩ = some (.int .i64 r) := hg1.keep (by simp)
  have p1 : w1.cell? ⟨w.heap.size, 1, none⟩ = some (.int .i64 n) := hg1.keep (by simp)
  have p2 : w1.cell? ⟨w.heap.size, 2, none⟩ = some (.slice (some ⟨b, off, none⟩) (M.length + 1) cap) := hg1.keep (by simp)
  obtain ⟨b0, b1, b2, f0, f1, f2, b6⟩ := (BoxAt.new (w.alloc (.cells #[.int .i64 r, .int .i64 n, .slice (some ⟨b, off, none⟩) (M.length + 1) cap] 24)) (.int .i64 0) (.int .i64 0) (.slice none 0 0) 24 (w.heap.size + 1) (by simp)).gr hg1
  have hgw : Gr w w1 := (by repeat (first | exact Gr.refl _ | refine Gr.alloc ?_ | refine Gr.drew ?_ | refine Gr.trans ?_ (by assumption)))
  have hh := hgw.keep hc
  have hn4 : b ≠ w.heap.size + 1 := by omega
  have hia : HopsAt w1 (some ⟨b, off, none⟩) M := HM.out.gr hgw
  have HI : Hid (HopsAt w1 (some ⟨b, off, none⟩) M) := hia
  clear hia hg1
  go_wp2
  go_region
  all_goals go_wp2
  all_goals
    have hia := HI.out
    have hfr : ∀ a, (some ⟨b, off, none⟩ : Option Addr) = some a → a.block = b := fun a e => by cases e; rfl
    exact bodyPost_ret (v := .tuple #[.agg #[.int .i64 r, .int .i64 n, .slice (some ⟨b, off, none⟩) M.length cap], .int .i64 s, .bool true]) (by simp [results, Tryd.results19, go_sem, b0, b1, b2]) rfl ⟨some ⟨b, off, none⟩, cap, rfl, by omega, (by (repeat' (first | with_reducible exact hia | with_reducible refine HopsAt.set ?_ _ _ ?_ | with_reducible refine HopsAt.alloc ?_ | with_reducible refine HopsAt.drew ?_)) <;> (intro a e; have := hfr a e; simp at this ⊢; omega)), (by (repeat' (first | with_reducible exact Gr.refl _ | with_reducible refine Gr.set ?_ _ ?_ _ | with_reducible refine Gr.alloc ?_ | with_reducible refine Gr.drew ?_ | with_reducible refine Gr.trans ?_ (by assumption))) <;> (first | (simp; done) | (simp; omega) | omega))⟩
end Go.Proofs.YtecpppppadoppaaDoor
