/- Structs of seven cells in memory. -/
import Derived.Test.YtdliljijgokpjaaDoorBoxA
namespace Go.Proofs.YtdliljijgokpjaaDoor
open Go.RowKit

/- a struct of seven cells in memory that may be written -/
structure AccAt (w : World) (g : Nat) (a b c d e f h : Value) : Prop where
  c0 : w.cell? ⟨g, 0, none⟩ = some a
  c1 : w.cell? ⟨g, 1, none⟩ = some b
  c2 : w.cell? ⟨g, 2, none⟩ = some c
  c3 : w.cell? ⟨g, 3, none⟩ = some d
  c4 : w.cell? ⟨g, 4, none⟩ = some e
  c5 : w.cell? ⟨g, 5, none⟩ = some f
  c6 : w.cell? ⟨g, 6, none⟩ = some h
  fz : ∀ i, i < 7 → w.frozen? ⟨g, i, none⟩ = false
  lt : g < w.heap.size
theorem AccAt.cells {w : World} {g : Nat} {a b c d e f h : Value} (x : AccAt w g a b c d e f h) :
    w.cell? ⟨g, 0, none⟩ = some a ∧ w.cell? ⟨g, 1, none⟩ = some b ∧ w.cell? ⟨g, 2, none⟩ = some c ∧ w.cell? ⟨g, 3, none⟩ = some d ∧ w.cell? ⟨g, 4, none⟩ = some e ∧ w.cell? ⟨g, 5, none⟩ = some f ∧ w.cell? ⟨g, 6, none⟩ = some h :=
  ⟨x.c0, x.c1, x.c2, x.c3, x.c4, x.c5, x.c6⟩
theorem AccAt.frozens {w : World} {g : Nat} {a b c d e f h : Value} (x : AccAt w g a b c d e f h) :
    w.frozen? ⟨g, 0, none⟩ = false ∧ w.frozen? ⟨g, 1, none⟩ = false ∧ w.frozen? ⟨g, 2, none⟩ = false ∧ w.frozen? ⟨g, 3, none⟩ = false ∧ w.frozen? ⟨g, 4, none⟩ = false ∧ w.frozen? ⟨g, 5, none⟩ = false ∧ w.frozen? ⟨g, 6, none⟩ = false :=
  ⟨x.fz 0 (by omega), x.fz 1 (by omega), x.fz 2 (by omega), x.fz 3 (by omega), x.fz 4 (by omega), x.fz 5 (by omega), x.fz 6 (by omega)⟩
theorem AccAt.gr {w w' : World} {g : Nat} {a b c d e f h : Value} (x : AccAt w g a b c d e f h) (k : Gr w w') : AccAt w' g a b c d e f h :=
  ⟨k.keep x.c0, k.keep x.c1, k.keep x.c2, k.keep x.c3, k.keep x.c4, k.keep x.c5, k.keep x.c6, fun i hi => k.keepF x.lt (x.fz i hi), Nat.lt_of_lt_of_le x.lt k.size⟩
theorem AccAt.new (w : World) (a b c d e f h : Value) (t : TypeId) (g : Nat) (hg : g = w.heap.size) : AccAt (w.alloc (.cells #[a, b, c, d, e, f, h] t)) g a b c d e f h := by
  subst hg
  exact ⟨by simp, by simp, by simp, by simp, by simp, by simp, by simp, fun i hi => by simp [go_sem], by simp⟩
theorem AccAt.set7 {w : World} {g : Nat} {a b c d e f h : Value} (x : AccAt w g a b c d e f h) (a' b' c' d' e' f' h' : Value) :
    AccAt (((((((w.setCell ⟨g, 0, none⟩ a').setCell ⟨g, 1, none⟩ b').setCell ⟨g, 2, none⟩ c').setCell ⟨g, 3, none⟩ d').setCell ⟨g, 4, none⟩ e').setCell ⟨g, 5, none⟩ f').setCell ⟨g, 6, none⟩ h') g a' b' c' d' e' f' h' := by
  obtain ⟨h0, h1, h2, h3, h4, h5, h6⟩ := x.cells
  have hl := x.lt
  have hf := x.fz
  exact ⟨by simp [go_sem, *], by simp [go_sem, *], by simp [go_sem, *], by simp [go_sem, *], by simp [go_sem, *], by simp [go_sem, *], by simp [go_sem, *], fun i hi => by simp [go_sem, *], by simpa using hl⟩
theorem Gr.set7 {a b : World} (h : Gr a b) (g : Nat) (hg : a.heap.size ≤ g) (v0 v1 v2 v3 v4 v5 v6 : Value) :
    Gr a (((((((b.setCell ⟨g, 0, none⟩ v0).setCell ⟨g, 1, none⟩ v1).setCell ⟨g, 2, none⟩ v2).setCell ⟨g, 3, none⟩ v3).setCell ⟨g, 4, none⟩ v4).setCell ⟨g, 5, none⟩ v5).setCell ⟨g, 6, none⟩ v6) :=
  ((((((h.set _ hg v0).set _ hg v1).set _ hg v2).set _ hg v3).set _ hg v4).set _ hg v5).set _ hg v6
/- a struct of seven cells that may be written, whatever it holds -/
def RoomB (w : World) (g : Nat) : Prop := ∃ a b c d e f h, AccAt w g a b c d e f h
theorem RoomB.gr {w w' : World} {g : Nat} (x : RoomB w g) (k : Gr w w') : RoomB w' g := by
  obtain ⟨a, b, c, d, e, f, h, x⟩ := x
  exact ⟨a, b, c, d, e, f, h, x.gr k⟩
theorem RoomB.drew {w : World} {g : Nat} (x : RoomB w g) : RoomB w.drew g := x.gr (Gr.refl _).drew
theorem RoomB.set7 {w : World} {g : Nat} (x : RoomB w g) (a' b' c' d' e' f' h' : Value) :
    RoomB (((((((w.setCell ⟨g, 0, none⟩ a').setCell ⟨g, 1, none⟩ b').setCell ⟨g, 2, none⟩ c').setCell ⟨g, 3, none⟩ d').setCell ⟨g, 4, none⟩ e').setCell ⟨g, 5, none⟩ f').setCell ⟨g, 6, none⟩ h') g := by
  obtain ⟨a, b, c, d, e, f, h, x⟩ := x
  exact ⟨_, _, _, _, _, _, _, x.set7 a' b' c' d' e' f' h'⟩
end Go.Proofs.YtdliljijgokpjaaDoor
