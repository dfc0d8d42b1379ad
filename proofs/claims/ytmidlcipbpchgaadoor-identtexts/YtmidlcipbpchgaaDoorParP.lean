/- Parent: the id without its last hop, that hop's Step. -/
import Derived.Test.YtmidlcipbpchgaaDoorChkP
import Derived.Test.YtmidlcipbpchgaaDoorCloP
import Derived.Deep.RegionHeld3
import Derived.BigRegion
namespace Go.Proofs.YtmidlcipbpchgaaDoor
open Go.RowKit

theorem Gr.set {a b : World} (h : Gr a b) (p : Addr) (hp : a.heap.size ≤ p.block) (v : Value) : Gr a (b.setCell p v) := ⟨h.below.setCell hp v⟩

/- a struct of three cells in memory that may be written -/
structure BoxAt (w : World) (g : Nat) (a b c : Value) : Prop where
  c0 : w.cell? ⟨g, 0, none⟩ = some a
  c1 : w.cell? ⟨g, 1, none⟩ = some b
  c2 : w.cell? ⟨g, 2, none⟩ = some c
  f0 : w.frozen? ⟨g, 0, none⟩ = false
  f1 : w.frozen? ⟨g, 1, none⟩ = false
  f2 : w.frozen? ⟨g, 2, none⟩ = false
  lt : g < w.heap.size
theorem Gr.keepF {W w1 : World} (g : Gr W w1) {p : Addr} (hb : p.block < W.heap.size) (h : W.frozen? p = false) : w1.frozen? p = false := (g.below.frozen hb).trans h
theorem BoxAt.gr {w w' : World} {g : Nat} {a b c : Value} (h : BoxAt w g a b c) (k : Gr w w') : BoxAt w' g a b c :=
  ⟨k.keep h.c0, k.keep h.c1, k.keep h.c2, k.keepF h.lt h.f0, k.keepF h.lt h.f1, k.keepF h.lt h.f2, Nat.lt_of_lt_of_le h.lt k.size⟩
theorem BoxAt.new (w : World) (a b c : Value) (t : TypeId) (g : Nat) (hg : g = w.heap.size) : BoxAt (w.alloc (.cells #[a, b, c] t)) g a b c := by
  subst hg
  exact ⟨by simp, by simp, by simp, by simp [go_sem], by simp [go_sem], by simp [go_sem], by simp⟩

set_option maxHeartbeats 1000000 in
set_option maxRecDepth 100000 in
theorem parent_no (r n : Int) (L : List (Int × Int)) (ad : Option Addr) (cap : Nat) (w : World) (hL : HopsAt w ad L) (hn : L.length ≤ 9223372036854775807) (hm : Idn.mayB r n L = false ∨ L = []) :
    Calls Tryd.prog 18 #[.agg #[.int .i64 r, .int .i64 n, .slice ad L.length cap]] w fun e w' => e = .returned (.tuple #[.agg #[.int .i64 0, .int .i64 0, .slice none 0 0], .int .i64 0, .bool false]) ∧ Gr w w' := by
  have HC : Hid (∀ w', Gr w w' → Calls Tryd.prog 9 #[.agg #[.int .i64 r, .int .i64 n, .slice ad L.length cap]] w' fun e w2 => e = .returned (.int .i64 (errB (Idn.mayB r n L))) ∧ Gr w' w2) := fun w' g => check_any r n L ad cap w' (hL.gr g) hn
  clear hL
  by_cases h1 : Idn.mayB r n L = false
  · rw [h1, show errB false = 30 from rfl] at HC
    clear h1 hm
    go_enter Tryd.func18, Tryd.ntmps18
    go_wp2_with fail
    refine (HC.out _ (by repeat (first | exact Gr.refl _ | refine Gr.alloc ?_ | refine Gr.drew ?_ | refine Gr.trans ?_ (by assumption)))).mono ?_
    rintro e1 w1 ⟨rfl, hg1⟩
    obtain ⟨hc1, hf1⟩ := hg1.cells
    go_wp2
    exact bodyPost_ret (v := .tuple #[.agg #[.int .i64 0, .int .i64 0, .slice none 0 0], .int .i64 0, .bool false]) (by simp [results, Tryd.results18, go_sem, hc1]) rfl ⟨rfl, (by (repeat' (first | with_reducible exact Gr.refl _ | with_reducible refine Gr.set ?_ _ ?_ _ | with_reducible refine Gr.alloc ?_ | with_reducible refine Gr.drew ?_ | with_reducible refine Gr.trans ?_ (by assumption))) <;> (first | (simp; done) | (simp; omega) | omega))⟩
  · have h2 : Idn.mayB r n L = true := by simpa using h1
    obtain rfl : L = [] := by
      rcases hm with h | h
      · exact absurd h h1
      · exact h
    rw [h2, show errB true = 0 from rfl] at HC
    clear h1 hm h2
    go_enter Tryd.func18, Tryd.ntmps18
    go_wp2_with fail
    refine (HC.out _ (by repeat (first | exact Gr.refl _ | refine Gr.alloc ?_ | refine Gr.drew ?_ | refine Gr.trans ?_ (by assumption)))).mono ?_
    rintro e1 w1 ⟨rfl, hg1⟩
    obtain ⟨hc1, hf1⟩ := hg1.cells
    go_wp2
    exact bodyPost_ret (v := .tuple #[.agg #[.int .i64 0, .int .i64 0, .slice none 0 0], .int .i64 0, .bool false]) (by simp [results, Tryd.results18, go_sem, hc1]) rfl ⟨rfl, (by (repeat' (first | with_reducible exact Gr.refl _ | with_reducible refine Gr.set ?_ _ ?_ _ | with_reducible refine Gr.alloc ?_ | with_reducible refine Gr.drew ?_ | with_reducible refine Gr.trans ?_ (by assumption))) <;> (first | (simp; done) | (simp; omega) | omega))⟩

set_option maxHeartbeats 8000000 in
set_option maxRecDepth 100000 in
theorem parent_yes (r n s o : Int) (M : List (Int × Int)) (b off : Nat) (cap : Nat) (w : World) (hL : HopsAt w (some ⟨b, off, none⟩) (M ++ [(s, o)])) (hcap : M.length + 1 ≤ cap) (hm : Idn.mayB r n (M ++ [(s, o)]) = true) (h4 : M.length ≤ 3) :
    Calls Tryd.prog 18 #[.agg #[.int .i64 r, .int .i64 n, .slice (some ⟨b, off, none⟩) (M.length + 1) cap]] w fun e w' =>
      ∃ ad2 cap2, e = .returned (.tuple #[.agg #[.int .i64 r, .int .i64 n, .slice ad2 M.length cap2], .int .i64 s, .bool true]) ∧ M.length ≤ cap2 ∧ HopsAt w' ad2 M ∧ Gr w w' := by
  have HC : Hid (∀ w', Gr w w' → Calls Tryd.prog 9 #[.agg #[.int .i64 r, .int .i64 n, .slice (some ⟨b, off, none⟩) (M.length + 1) cap]] w' fun e w2 => e = .returned (.int .i64 0) ∧ Gr w' w2) := by
    intro w' g
    have := check_any r n (M ++ [(s, o)]) (some ⟨b, off, none⟩) cap w' (hL.gr g) (by simp; omega)
    rw [hm, List.length_append] at this
    exact this
  have HK : Hid (∀ w', Gr w w' → Calls Tryd.prog 33 #[.slice (some ⟨b, off, none⟩) M.length cap] w' fun e w2 => ∃ ad2 cap2, e = .returned (.slice ad2 M.length cap2) ∧ M.length ≤ cap2 ∧ HopsAt w2 ad2 M ∧ (∀ a, ad2 = some a → w'.heap.size ≤ a.block) ∧ Gr w' w2) := by
    intro w' g
    refine clone_any M b off cap w' ?_ (by omega)
    have := hL.take M.length
    rw [List.take_left] at this
    exact this.gr g
  obtain ⟨b', off', e, hbl, hc, _⟩ := hL M.length (by simp)
  simp at e
  obtain ⟨rfl, rfl⟩ := e
  simp at hc
  have hne : (((M.length : Int) + 1) == 0) = false := by rw [beq_eq_false_iff_ne]; omega
  have hm1 : (M.length : Int) ≤ cap := by omega
  have hm0 : (0 : Int) ≤ M.length := by omega
  clear hL hm
  go_enter Tryd.func18, Tryd.ntmps18
  go_wp2_with fail
  refine (HC.out _ (by repeat (first | exact Gr.refl _ | refine Gr.alloc ?_ | refine Gr.drew ?_ | refine Gr.trans ?_ (by assumption)))).mono ?_
  rintro e1 w1 ⟨rfl, hg1⟩
  have p0 : w1.cell? ⟨w.heap.size, 0, none⟩ = some (.int .i64 r) := hg1.keep (by simp)
  have p1 : w1.cell? ⟨w.heap.size, 1, none⟩ = some (.int .i64 n) := hg1.keep (by simp)
  have p2 : w1.cell? ⟨w.heap.size, 2, none⟩ = some (.slice (some ⟨b, off, none⟩) (M.length + 1) cap) := hg1.keep (by simp)
  have hw1 : w.heap.size ≤ w1.heap.size := by have := hg1.size; simp at this; omega
  have hw2 : w.heap.size + 1 < w1.heap.size := by have := hg1.size; simp at this; omega
  have bx : BoxAt w1 (w.heap.size + 1) (.int .i64 0) (.int .i64 0) (.slice none 0 0) := (BoxAt.new _ _ _ _ _ _ (by simp)).gr hg1
  have hgw : Gr w w1 := (by repeat (first | exact Gr.refl _ | refine Gr.alloc ?_ | refine Gr.drew ?_ | refine Gr.trans ?_ (by assumption)))
  have hh := hgw.keep hc
  have hbw : b < w1.heap.size := by omega
  clear hgw
  have hn1 : w.heap.size + 1 ≠ w1.heap.size := by omega
  have hn2 : w.heap.size ≠ w1.heap.size := by omega
  have hn3 : b ≠ w1.heap.size := by omega
  have hn4 : b ≠ w.heap.size + 1 := by omega
  have hlt : (M.length : Int) < M.length + 1 := by omega
  go_wp2
  go_region_held3 (fun w' => Gr w w' ∧ Gr w1 w' ∧ w'.cell? ⟨w.heap.size, 0, none⟩ = some (.int .i64 r) ∧ w'.cell? ⟨w.heap.size, 1, none⟩ = some (.int .i64 n) ∧ w'.cell? ⟨w.heap.size, 2, none⟩ = some (.slice (some ⟨b, off, none⟩) (M.length + 1) cap))
    ((go_split_ands; exact ⟨(by (repeat' (first | with_reducible exact Gr.refl _ | with_reducible refine Gr.set ?_ _ ?_ _ | with_reducible refine Gr.alloc ?_ | with_reducible refine Gr.drew ?_ | with_reducible refine Gr.trans ?_ (by assumption))) <;> (first | (simp; done) | (simp; omega) | omega)), (by (repeat' (first | with_reducible exact Gr.refl _ | with_reducible refine Gr.set ?_ _ ?_ _ | with_reducible refine Gr.alloc ?_ | with_reducible refine Gr.drew ?_ | with_reducible refine Gr.trans ?_ (by assumption))) <;> (first | (simp; done) | (simp; omega) | omega)), Gr.keep (W := w1) (by (repeat' (first | with_reducible exact Gr.refl _ | with_reducible refine Gr.set ?_ _ ?_ _ | with_reducible refine Gr.alloc ?_ | with_reducible refine Gr.drew ?_ | with_reducible refine Gr.trans ?_ (by assumption))) <;> (first | (simp; done) | (simp; omega) | omega)) p0, Gr.keep (W := w1) (by (repeat' (first | with_reducible exact Gr.refl _ | with_reducible refine Gr.set ?_ _ ?_ _ | with_reducible refine Gr.alloc ?_ | with_reducible refine Gr.drew ?_ | with_reducible refine Gr.trans ?_ (by assumption))) <;> (first | (simp; done) | (simp; omega) | omega)) p1, Gr.keep (W := w1) (by (repeat' (first | with_reducible exact Gr.refl _ | with_reducible refine Gr.set ?_ _ ?_ _ | with_reducible refine Gr.alloc ?_ | with_reducible refine Gr.drew ?_ | with_reducible refine Gr.trans ?_ (by assumption))) <;> (first | (simp; done) | (simp; omega) | omega)) p2⟩))
    ((first | (go_at_call 33; refine (HK.out _ ?_).mono ?_; (go_split_ands; exact (by repeat (first | exact Gr.refl _ | refine Gr.alloc ?_ | refine Gr.drew ?_ | refine Gr.trans ?_ (by assumption)))); rintro e w2 ⟨ad2, cap2, rfl, hcp, hia, hfr, hg2⟩; obtain ⟨hc2, hf2⟩ := hg2.cells; have hg3 : Gr w1 w2 := (by exact (by repeat (first | exact Gr.refl _ | refine Gr.alloc ?_ | refine Gr.drew ?_ | refine Gr.trans ?_ (by assumption)))); obtain ⟨b0, b1, b2, b3, b4, b5, b6⟩ := bx.gr hg3; have hz2 := hg2.size; simp at hz2; have hz3 : b < w2.heap.size := (by omega); have hz4 : w.heap.size < w2.heap.size := (by omega); have y1 := hg3.keep hh; have y2 := hg3.keep p2)))
  all_goals go_wp2
  all_goals go_region
  all_goals go_wp2
  all_goals
    exact bodyPost_ret (v := .tuple #[.agg #[.int .i64 r, .int .i64 n, .slice ad2 M.length cap2], .int .i64 s, .bool true]) (by simp [results, Tryd.results18, go_sem, b0, b1, b2, b6]) rfl ⟨ad2, cap2, rfl, hcp, (by (repeat' (first | with_reducible exact hia | with_reducible refine HopsAt.set ?_ _ _ ?_ | with_reducible refine HopsAt.alloc ?_ | with_reducible refine HopsAt.drew ?_)) <;> (intro a e; have := hfr a e; simp at this ⊢; omega)), (by (repeat' (first | with_reducible exact Gr.refl _ | with_reducible refine Gr.set ?_ _ ?_ _ | with_reducible refine Gr.alloc ?_ | with_reducible refine Gr.drew ?_ | with_reducible refine Gr.trans ?_ (by assumption))) <;> (first | (simp; done) | (simp; omega) | omega))⟩
end Go.Proofs.YtmidlcipbpchgaaDoor
