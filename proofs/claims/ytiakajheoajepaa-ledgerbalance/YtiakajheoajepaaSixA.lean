/- Six cells in memory: two pots. -/
import Derived.Test.YtiakajheoajepaaAccA
import Derived.Deep.RegionHeld3
namespace Go.Proofs.Ytiakajheoajepaa
open Go.RowKit

structure SixAt (w : World) (g : Nat) (a b c d e f : Value) : Prop where
  c0 : w.cell? ⟨g, 0, none⟩ = some a
  c1 : w.cell? ⟨g, 1, none⟩ = some b
  c2 : w.cell? ⟨g, 2, none⟩ = some c
  c3 : w.cell? ⟨g, 3, none⟩ = some d
  c4 : w.cell? ⟨g, 4, none⟩ = some e
  c5 : w.cell? ⟨g, 5, none⟩ = some f
  fz : ∀ i, i < 6 → w.frozen? ⟨g, i, none⟩ = false
  lt : g < w.heap.size
theorem SixAt.cells {w : World} {g : Nat} {a b c d e f : Value} (x : SixAt w g a b c d e f) :
    w.cell? ⟨g, 0, none⟩ = some a ∧ w.cell? ⟨g, 1, none⟩ = some b ∧ w.cell? ⟨g, 2, none⟩ = some c ∧ w.cell? ⟨g, 3, none⟩ = some d ∧ w.cell? ⟨g, 4, none⟩ = some e ∧ w.cell? ⟨g, 5, none⟩ = some f :=
  ⟨x.c0, x.c1, x.c2, x.c3, x.c4, x.c5⟩
theorem SixAt.frozens {w : World} {g : Nat} {a b c d e f : Value} (x : SixAt w g a b c d e f) :
    w.frozen? ⟨g, 0, none⟩ = false ∧ w.frozen? ⟨g, 1, none⟩ = false ∧ w.frozen? ⟨g, 2, none⟩ = false ∧ w.frozen? ⟨g, 3, none⟩ = false ∧ w.frozen? ⟨g, 4, none⟩ = false ∧ w.frozen? ⟨g, 5, none⟩ = false :=
  ⟨x.fz 0 (by omega), x.fz 1 (by omega), x.fz 2 (by omega), x.fz 3 (by omega), x.fz 4 (by omega), x.fz 5 (by omega)⟩
theorem SixAt.gr {w w' : World} {g : Nat} {a b c d e f : Value} (x : SixAt w g a b c d e f) (k : Gr w w') : SixAt w' g a b c d e f :=
  ⟨k.keep x.c0, k.keep x.c1, k.keep x.c2, k.keep x.c3, k.keep x.c4, k.keep x.c5, fun i hi => k.keepF x.lt (x.fz i hi), Nat.lt_of_lt_of_le x.lt k.size⟩
theorem SixAt.new (w : World) (a b c d e f : Value) (t : TypeId) (g : Nat) (hg : g = w.heap.size) : SixAt (w.alloc (.cells #[a, b, c, d, e, f] t)) g a b c d e f := by
  subst hg
  exact ⟨by simp, by simp, by simp, by simp, by simp, by simp, fun i hi => by simp [go_sem], by simp⟩
theorem SixAt.low {w : World} {g : Nat} {a b c d e f : Value} (x : SixAt w g a b c d e f) (a' b' c' : Value) :
    SixAt (((w.setCell ⟨g, 0, none⟩ a').setCell ⟨g, 1, none⟩ b').setCell ⟨g, 2, none⟩ c') g a' b' c' d e f := by
  obtain ⟨h0, h1, h2, h3, h4, h5⟩ := x.cells
  have hl := x.lt
  have hf := x.fz
  exact ⟨by simp [go_sem, *], by simp [go_sem, *], by simp [go_sem, *], by simp [go_sem, *], by simp [go_sem, *], by simp [go_sem, *], fun i hi => by simp [go_sem, *], by simpa using hl⟩
theorem SixAt.high {w : World} {g : Nat} {a b c d e f : Value} (x : SixAt w g a b c d e f) (a' b' c' : Value) :
    SixAt (((w.setCell ⟨g, 3, none⟩ a').setCell ⟨g, 4, none⟩ b').setCell ⟨g, 5, none⟩ c') g a b c a' b' c' := by
  obtain ⟨h0, h1, h2, h3, h4, h5⟩ := x.cells
  have hl := x.lt
  have hf := x.fz
  exact ⟨by simp [go_sem, *], by simp [go_sem, *], by simp [go_sem, *], by simp [go_sem, *], by simp [go_sem, *], by simp [go_sem, *], fun i hi => by simp [go_sem, *], by simpa using hl⟩
theorem AccAt.far {w : World} {g : Nat} {a b c d e f h : Value} (x : AccAt w g a b c d e f h) (q : Addr) (v : Value) (hq : q.block ≠ g) : AccAt (w.setCell q v) g a b c d e f h :=
  ⟨(World.cell?_setCell_far w q _ v hq).trans x.c0, (World.cell?_setCell_far w q _ v hq).trans x.c1, (World.cell?_setCell_far w q _ v hq).trans x.c2, (World.cell?_setCell_far w q _ v hq).trans x.c3, (World.cell?_setCell_far w q _ v hq).trans x.c4, (World.cell?_setCell_far w q _ v hq).trans x.c5, (World.cell?_setCell_far w q _ v hq).trans x.c6, fun i hi => by rw [World.frozen?_setCell]; exact x.fz i hi, by simpa using x.lt⟩
theorem BoxAt.far {w : World} {g : Nat} {a b c : Value} (x : BoxAt w g a b c) (q : Addr) (v : Value) (hq : q.block ≠ g) : BoxAt (w.setCell q v) g a b c :=
  ⟨(World.cell?_setCell_far w q _ v hq).trans x.c0, (World.cell?_setCell_far w q _ v hq).trans x.c1, (World.cell?_setCell_far w q _ v hq).trans x.c2, by rw [World.frozen?_setCell]; exact x.f0, by rw [World.frozen?_setCell]; exact x.f1, by rw [World.frozen?_setCell]; exact x.f2, by simpa using x.lt⟩
end Go.Proofs.Ytiakajheoajepaa
