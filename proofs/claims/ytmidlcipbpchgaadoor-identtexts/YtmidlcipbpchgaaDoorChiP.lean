/- Child: the id with a hop behind. -/
import Derived.Test.YtmidlcipbpchgaaDoorParP
namespace Go.Proofs.YtmidlcipbpchgaaDoor
open Go.RowKit

theorem hops_lit1 (w : World) (a b : Int) (t : TypeId) (g : Nat) (hg : g = w.heap.size) : HopsAt (w.alloc (.cells #[.int .i64 a, .int .i64 b] t)) (some ⟨g, 0, none⟩) [(a, b)] := by
  subst hg
  intro j hj
  obtain rfl : j = 0 := by simpa using hj
  exact ⟨_, _, rfl, by simp, by simp, by simp⟩

set_option maxHeartbeats 2000000 in
set_option maxRecDepth 100000 in
theorem child_any (r n s o : Int) (L : List (Int × Int)) (ad : Option Addr) (cap : Nat) (w : World) (hL : HopsAt w ad L) (hz : ad = none → cap = 0) (hn : L.length ≤ 900) :
    Calls Tryd.prog 20 #[.agg #[.int .i64 r, .int .i64 n, .slice ad L.length cap], .int .i64 s, .int .i64 o] w fun e w' =>
      ((Idn.mayB r n (L ++ [(s, o)]) = true ∧ ∃ ad2 cap2, e = .returned (.tuple #[.agg #[.int .i64 r, .int .i64 n, .slice ad2 (L.length + 1) cap2], .int .i64 0]) ∧ L.length + 1 ≤ cap2 ∧ HopsAt w' ad2 (L ++ [(s, o)])) ∨
       (Idn.mayB r n (L ++ [(s, o)]) = false ∧ e = .returned (.tuple #[.agg #[.int .i64 0, .int .i64 0, .slice none 0 0], .int .i64 30]))) ∧ Gr w w' := by
  have HK : Hid (∀ (w' : World) (g b2 : Nat), Gr w w' → HopsAt w' (some ⟨b2, 0, none⟩) [(s, o)] → w'.cell? ⟨g, 0, none⟩ = some (.slice ad L.length cap) → w'.cell? ⟨g, 1, none⟩ = some (.slice (some ⟨b2, 0, none⟩) 1 1) → Calls Tryd.prog 34 #[.slice (some ⟨g, 0, none⟩) 2 2] w' fun e w2 => ∃ ad2 cap2, e = .returned (.slice ad2 (L.length + 1) cap2) ∧ L.length + 1 ≤ cap2 ∧ HopsAt w2 ad2 (L ++ [(s, o)]) ∧ (∀ a, ad2 = some a → w'.heap.size ≤ a.block) ∧ Gr w' w2) :=
    fun w' g b2 gr h2 h3 h4 => concat_any L (s, o) ad cap g b2 0 w' (hL.gr gr) hz h2 hn h3 h4
  have HC : Hid (∀ (w' : World) (ad2 : Option Addr) (cap2 : Nat), HopsAt w' ad2 (L ++ [(s, o)]) → Calls Tryd.prog 9 #[.agg #[.int .i64 r, .int .i64 n, .slice ad2 (L.length + 1) cap2]] w' fun e w2 => e = .returned (.int .i64 (errB (Idn.mayB r n (L ++ [(s, o)])))) ∧ Gr w' w2) := by
    intro w' ad2 cap2 h
    have := check_any r n (L ++ [(s, o)]) ad2 cap2 w' h (by simp; omega)
    rw [List.length_append] at this
    exact this
  clear hL
  go_enter Tryd.func20, Tryd.ntmps20
  go_wp2_with fail
  refine (HK.out _ _ (w.heap.size + 1 + 1) ?_ ?_ ?_ ?_).mono ?_
  · exact (by repeat (first | exact Gr.refl _ | refine Gr.alloc ?_ | refine Gr.drew ?_ | refine Gr.trans ?_ (by assumption)))
  · exact (hops_lit1 ((w.alloc _).alloc _) s o _ _ (by simp)).gr (by repeat (first | exact Gr.refl _ | refine Gr.alloc ?_ | refine Gr.drew ?_ | refine Gr.trans ?_ (by assumption)))
  · simp [go_sem]
  · simp [go_sem]
  rintro e1 w1 ⟨ad2, cap2, rfl, hcp, hia, hfr, hg1⟩
  obtain ⟨hc1, hf1⟩ := hg1.cells
  have bx : BoxAt w1 (w.heap.size + 1) (.int .i64 0) (.int .i64 0) (.slice none 0 0) := ((BoxAt.new (w.alloc (.cells #[.int .i64 r, .int .i64 n, .slice ad L.length cap] 24)) (.int .i64 0) (.int .i64 0) (.slice none 0 0) 24 _ (by simp)).gr (Gr.refl _).alloc.alloc).gr hg1
  have hsz : w.heap.size + 1 < w1.heap.size := by have := hg1.size; simp at this; omega
  have hsz0 : w.heap.size < w1.heap.size := by omega
  have HB : Hid (BoxAt w1 (w.heap.size + 1) (.int .i64 0) (.int .i64 0) (.slice none 0 0)) := bx
  have HI : Hid (HopsAt w1 ad2 (L ++ [(s, o)])) := hia
  have HFR : Hid (∀ a, ad2 = some a → w.heap.size + 1 + 1 ≤ a.block) := fun a e => by have := hfr a e; simp at this; omega
  clear bx hia hfr
  go_wp2_with fail
  refine (HC.out _ _ _ ?_).mono ?_
  · exact HI.out.gr (by repeat (first | exact Gr.refl _ | refine Gr.alloc ?_ | refine Gr.drew ?_ | refine Gr.trans ?_ (by assumption)))
  rintro e2 w2 ⟨rfl, hg2⟩
  obtain ⟨b0, b1, b2, f0, f1, f2, b6⟩ := (HB.out.gr (Gr.refl _).alloc).gr hg2
  obtain ⟨c0, c1, c2, _, _, _, c6⟩ := (BoxAt.new w1 (.int .i64 r) (.int .i64 n) (.slice ad2 (L.length + 1) cap2) 24 _ rfl).gr hg2
  have hne : w.heap.size + 1 ≠ w1.heap.size := by omega
  have hgw : Gr w w2 := (by repeat (first | exact Gr.refl _ | refine Gr.alloc ?_ | refine Gr.drew ?_ | refine Gr.trans ?_ (by assumption)))
  have hia : HopsAt w2 ad2 (L ++ [(s, o)]) := (HI.out.alloc).gr hg2
  have hfr := HFR.out
  by_cases hm : Idn.mayB r n (L ++ [(s, o)]) = true
  · have he : errB (Idn.mayB r n (L ++ [(s, o)])) = 0 := by rw [hm]; rfl
    rw [he]
    have HM : Hid (Idn.mayB r n (L ++ [(s, o)]) = true) := hm
    have HI2 : Hid (HopsAt w2 ad2 (L ++ [(s, o)])) := hia
    clear hm he hia hfr hc1 hf1
    go_wp2
    have hia := HI2.out
    have hfr := HFR.out
    exact bodyPost_ret (v := .tuple #[.agg #[.int .i64 r, .int .i64 n, .slice ad2 (L.length + 1) cap2], .int .i64 0]) (by simp [results, Tryd.results20, go_sem, b0, b1, b2]) rfl ⟨Or.inl ⟨HM.out, ad2, cap2, rfl, hcp, (by (repeat' (first | with_reducible exact hia | with_reducible refine HopsAt.set ?_ _ _ ?_ | with_reducible refine HopsAt.alloc ?_ | with_reducible refine HopsAt.drew ?_)) <;> (intro a e; have := hfr a e; simp at this ⊢; omega))⟩, (by (repeat' (first | with_reducible exact Gr.refl _ | with_reducible refine Gr.set ?_ _ ?_ _ | with_reducible refine Gr.alloc ?_ | with_reducible refine Gr.drew ?_ | with_reducible refine Gr.trans ?_ (by assumption))) <;> (first | (simp; done) | (simp; omega) | omega))⟩
  · have hm' : Idn.mayB r n (L ++ [(s, o)]) = false := by simpa using hm
    have he : errB (Idn.mayB r n (L ++ [(s, o)])) = 30 := by rw [hm']; rfl
    rw [he]
    have HM : Hid (Idn.mayB r n (L ++ [(s, o)]) = false) := hm'
    clear hm hm' he hia hfr hc1 hf1
    go_wp2
    exact bodyPost_ret (v := .tuple #[.agg #[.int .i64 0, .int .i64 0, .slice none 0 0], .int .i64 30]) (by simp [results, Tryd.results20, go_sem, b0, b1, b2]) rfl ⟨Or.inr ⟨HM.out, rfl⟩, (by (repeat' (first | with_reducible exact Gr.refl _ | with_reducible refine Gr.set ?_ _ ?_ _ | with_reducible refine Gr.alloc ?_ | with_reducible refine Gr.drew ?_ | with_reducible refine Gr.trans ?_ (by assumption))) <;> (first | (simp; done) | (simp; omega) | omega))⟩
end Go.Proofs.YtmidlcipbpchgaaDoor
