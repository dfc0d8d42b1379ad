/- Structs of three cells in memory, behind stores. -/
import Derived.Test.YtiakajheoajepaaBoxA
import Derived.Deep.RegionHeld3
namespace Go.Proofs.Ytiakajheoajepaa
open Go.RowKit

theorem grownBy_set (w : World) (p : Addr) (u : Value) : w.grownBy (w.setCell p u) (some p.block) :=
  ⟨rfl, rfl, rfl, by simp [World.setCell], fun k _ hk => Below.heap_setCell _ _ _ _ (fun e => hk (by rw [e]))⟩
theorem BoxAt.below {w w' : World} {g B : Nat} {a b c : Value} (h : BoxAt w g a b c) (k : Below B w w') (hB : g < B) : BoxAt w' g a b c :=
  ⟨(k.cell (p := ⟨g, 0, none⟩) hB).trans h.c0, (k.cell (p := ⟨g, 1, none⟩) hB).trans h.c1, (k.cell (p := ⟨g, 2, none⟩) hB).trans h.c2, (k.frozen (p := ⟨g, 0, none⟩) hB).trans h.f0, (k.frozen (p := ⟨g, 1, none⟩) hB).trans h.f1, (k.frozen (p := ⟨g, 2, none⟩) hB).trans h.f2, Nat.lt_of_lt_of_le h.lt k.size⟩
theorem BoxAt.setFar {w : World} {g : Nat} {a b c : Value} (h : BoxAt w g a b c) (p : Addr) (u : Value) (hp : p.block ≠ g) : BoxAt (w.setCell p u) g a b c := by
  obtain ⟨c0, c1, c2, f0, f1, f2, lt⟩ := h
  refine ⟨?_, ?_, ?_, ?_, ?_, ?_, by simpa using lt⟩
  · rw [World.cell?_setCell_far _ _ _ _ (by simpa using hp)]; exact c0
  · rw [World.cell?_setCell_far _ _ _ _ (by simpa using hp)]; exact c1
  · rw [World.cell?_setCell_far _ _ _ _ (by simpa using hp)]; exact c2
  · rw [World.frozen?_setCell]; exact f0
  · rw [World.frozen?_setCell]; exact f1
  · rw [World.frozen?_setCell]; exact f2
theorem BoxAt.far3 {w : World} {g : Nat} {a b c : Value} (h : BoxAt w g a b c) (k : Nat) (hk : k ≠ g) (x y z : Value) : BoxAt (((w.setCell ⟨k, 0, none⟩ x).setCell ⟨k, 1, none⟩ y).setCell ⟨k, 2, none⟩ z) g a b c :=
  ((h.setFar _ _ hk).setFar _ _ hk).setFar _ _ hk
theorem Gr.set3 {a b : World} (h : Gr a b) (k : Nat) (hk : a.heap.size ≤ k) (x y z : Value) : Gr a (((b.setCell ⟨k, 0, none⟩ x).setCell ⟨k, 1, none⟩ y).setCell ⟨k, 2, none⟩ z) :=
  ((h.set _ hk x).set _ hk y).set _ hk z
theorem own_set3 {w : World} {base : Nat} {e : TypeId} {size n : Nat} {v : Value} {xs : List Value} (h : w.ownsRow base e size v n xs) (k : Nat) (hk : k < base) (x y z : Value) : (((w.setCell ⟨k, 0, none⟩ x).setCell ⟨k, 1, none⟩ y).setCell ⟨k, 2, none⟩ z).ownsRow base e size v n xs := by
  have ne : v.ownBlock = none ∨ v.ownBlock ≠ some k := by
    by_cases hv : v.ownBlock = some k
    · have := (h.lt k hv).1; omega
    · exact Or.inr hv
  exact ((h.kept (grownBy_set w ⟨k, 0, none⟩ x) ne).kept (grownBy_set _ ⟨k, 1, none⟩ y) ne).kept (grownBy_set _ ⟨k, 2, none⟩ z) ne
theorem own_set3n {w : World} {base : Nat} {e : TypeId} {size n : Nat} {v : Value} {xs : List Value} (h : w.ownsRow base e size v n xs) (k : Nat) (hk : ∀ g, v.ownBlock = some g → g ≠ k) (x y z : Value) : (((w.setCell ⟨k, 0, none⟩ x).setCell ⟨k, 1, none⟩ y).setCell ⟨k, 2, none⟩ z).ownsRow base e size v n xs := by
  have ne : v.ownBlock = none ∨ v.ownBlock ≠ some k := Or.inr (fun e => hk k e rfl)
  exact ((h.kept (grownBy_set w ⟨k, 0, none⟩ x) ne).kept (grownBy_set _ ⟨k, 1, none⟩ y) ne).kept (grownBy_set _ ⟨k, 2, none⟩ z) ne
theorem size_set3 (w : World) (k : Nat) (x y z : Value) : (((w.setCell ⟨k, 0, none⟩ x).setCell ⟨k, 1, none⟩ y).setCell ⟨k, 2, none⟩ z).heap.size = w.heap.size := by simp
theorem own_gr {w w' : World} {base : Nat} {e : TypeId} {size n : Nat} {v : Value} {xs : List Value} (h : w.ownsRow base e size v n xs) (g : Gr w w') : w'.ownsRow base e size v n xs := h.kept g.grownBy (own_or v)
theorem hold5 {a b : World} (g : Gr a b) {q0 q1 q2 q3 q4 : Addr} {v0 v1 v2 v3 v4 : Value} (h0 : a.cell? q0 = some v0) (h1 : a.cell? q1 = some v1) (h2 : a.cell? q2 = some v2) (h3 : a.cell? q3 = some v3) (h4 : a.cell? q4 = some v4) :
    Gr a b ∧ b.cell? q0 = some v0 ∧ b.cell? q1 = some v1 ∧ b.cell? q2 = some v2 ∧ b.cell? q3 = some v3 ∧ b.cell? q4 = some v4 := ⟨g, g.keep h0, g.keep h1, g.keep h2, g.keep h3, g.keep h4⟩
end Go.Proofs.Ytiakajheoajepaa
