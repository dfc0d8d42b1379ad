
/- Rows of cells in a block of their own: structs of any number of cells. -/
import Derived.Test.YtilkfgpcibdikaaGbA
import Derived.Test.YtilkfgpcibdikaaParP
import Derived.Laws.NewBlocks
namespace Go.Proofs.Ytilkfgpcibdikaa
open Go.RowKit

/- a block's first cells, which may be written -/
structure Cs (w : World) (g : Nat) (vs : List Value) : Prop where
  at_ : ∀ i v, vs[i]? = some v → w.cell? ⟨g, i, none⟩ = some v
  fz : ∀ i, i < vs.length → w.frozen? ⟨g, i, none⟩ = false
  lt : g < w.heap.size
theorem Cs.gr {w w' : World} {g : Nat} {vs : List Value} (h : Cs w g vs) (k : Gr w w') : Cs w' g vs :=
  ⟨fun i v e => k.keep (h.at_ i v e), fun i hi => k.keepF h.lt (h.fz i hi), Nat.lt_of_lt_of_le h.lt k.size⟩
theorem Cs.alloc {w : World} {g : Nat} {vs : List Value} (h : Cs w g vs) {o : Obj} : Cs (w.alloc o) g vs := h.gr (Gr.refl _).alloc
theorem Cs.drew {w : World} {g : Nat} {vs : List Value} (h : Cs w g vs) : Cs w.drew g vs := h.gr (Gr.refl _).drew
theorem Cs.new (w : World) (vs : List Value) (t : TypeId) (g : Nat) (hg : g = w.heap.size) : Cs (w.alloc (.cells vs.toArray t)) g vs := by
  refine ⟨fun i v e => ?_, fun i hi => ?_, by subst hg; simp⟩
  · rw [World.cell?_alloc_at _ _ _ _ hg]; simpa using e
  · exact World.frozen?_alloc_at _ _ _ _ hg
theorem Cs.far {w : World} {g : Nat} {vs : List Value} (h : Cs w g vs) (p : Addr) (v : Value) (hp : p.block ≠ g) : Cs (w.setCell p v) g vs :=
  ⟨fun i u e => (World.cell?_setCell_far _ _ _ _ (by simpa using hp)).trans (h.at_ i u e), fun i hi => (World.frozen?_setCell _ _ _ _).trans (h.fz i hi), by simpa using h.lt⟩
theorem Cs.set {w : World} {g : Nat} {vs : List Value} (h : Cs w g vs) (k : Nat) (hk : k < vs.length) (v : Value) : Cs (w.setCell ⟨g, k, none⟩ v) g (vs.set k v) := by
  have hl := h.lt
  have hf := h.fz k hk
  have hc := h.at_ k vs[k] (by simp [hk])
  refine ⟨fun i u e => ?_, fun i hi => (World.frozen?_setCell _ _ _ _).trans (h.fz i (by simpa using hi)), by simpa using h.lt⟩
  by_cases hik : i = k
  · subst hik
    rw [List.getElem?_set_self hk] at e
    cases e
    simp [go_sem, *]
  · rw [List.getElem?_set_ne (fun e => hik e.symm)] at e
    have := h.at_ i u e
    have hne : ¬ k = i := fun e => hik e.symm
    simp [go_sem, *]
theorem GB.cs {b : Nat} {w w' : World} {g : Nat} {vs : List Value} (h : GB b w w') (x : Cs w g vs) (hne : g ≠ b) : Cs w' g vs :=
  ⟨fun i v e => h.keep x.lt hne (x.at_ i v e), fun i hi => h.keepF x.lt hne (x.fz i hi), Nat.lt_of_lt_of_le x.lt h.size⟩
theorem GB.hops {b : Nat} {w w' : World} {ad : Option Addr} {L : List (Int × Int)} (h : GB b w w') (x : HopsAt w ad L) (hne : ∀ a, ad = some a → a.block ≠ b) : HopsAt w' ad L := by
  intro j hj
  obtain ⟨g, off, e, hg, h1, h2⟩ := x j hj
  have := hne _ e
  exact ⟨g, off, e, Nat.lt_of_lt_of_le hg h.size, h.keep hg this h1, h.keep hg this h2⟩

/- a frame is laid into a block -/
theorem Gr.set12 {a b : World} (h : Gr a b) (g : Nat) (hg : a.heap.size ≤ g) (v0 v1 v2 v3 v4 v5 v6 v7 v8 v9 v10 v11 : Value) : Gr a ((((((((((((b.setCell ⟨g, 0, none⟩ v0).setCell ⟨g, 1, none⟩ v1).setCell ⟨g, 2, none⟩ v2).setCell ⟨g, 3, none⟩ v3).setCell ⟨g, 4, none⟩ v4).setCell ⟨g, 5, none⟩ v5).setCell ⟨g, 6, none⟩ v6).setCell ⟨g, 7, none⟩ v7).setCell ⟨g, 8, none⟩ v8).setCell ⟨g, 9, none⟩ v9).setCell ⟨g, 10, none⟩ v10).setCell ⟨g, 11, none⟩ v11) :=
  (((((((((((h.set ⟨g, 0, none⟩ hg v0).set ⟨g, 1, none⟩ hg v1).set ⟨g, 2, none⟩ hg v2).set ⟨g, 3, none⟩ hg v3).set ⟨g, 4, none⟩ hg v4).set ⟨g, 5, none⟩ hg v5).set ⟨g, 6, none⟩ hg v6).set ⟨g, 7, none⟩ hg v7).set ⟨g, 8, none⟩ hg v8).set ⟨g, 9, none⟩ hg v9).set ⟨g, 10, none⟩ hg v10).set ⟨g, 11, none⟩ hg v11
theorem HopsAt.set12 {w : World} {ad : Option Addr} {L : List (Int × Int)} (h : HopsAt w ad L) (g : Nat) (hg : ∀ a, ad = some a → g ≠ a.block) (v0 v1 v2 v3 v4 v5 v6 v7 v8 v9 v10 v11 : Value) : HopsAt ((((((((((((w.setCell ⟨g, 0, none⟩ v0).setCell ⟨g, 1, none⟩ v1).setCell ⟨g, 2, none⟩ v2).setCell ⟨g, 3, none⟩ v3).setCell ⟨g, 4, none⟩ v4).setCell ⟨g, 5, none⟩ v5).setCell ⟨g, 6, none⟩ v6).setCell ⟨g, 7, none⟩ v7).setCell ⟨g, 8, none⟩ v8).setCell ⟨g, 9, none⟩ v9).setCell ⟨g, 10, none⟩ v10).setCell ⟨g, 11, none⟩ v11) ad L :=
  (((((((((((h.set ⟨g, 0, none⟩ v0 hg).set ⟨g, 1, none⟩ v1 hg).set ⟨g, 2, none⟩ v2 hg).set ⟨g, 3, none⟩ v3 hg).set ⟨g, 4, none⟩ v4 hg).set ⟨g, 5, none⟩ v5 hg).set ⟨g, 6, none⟩ v6 hg).set ⟨g, 7, none⟩ v7 hg).set ⟨g, 8, none⟩ v8 hg).set ⟨g, 9, none⟩ v9 hg).set ⟨g, 10, none⟩ v10 hg).set ⟨g, 11, none⟩ v11 hg
end Go.Proofs.Ytilkfgpcibdikaa
