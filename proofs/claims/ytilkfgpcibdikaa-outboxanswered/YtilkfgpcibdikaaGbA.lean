
/- Nothing has turned but one block. -/
import Derived.Test.YtilkfgpcibdikaaBase
namespace Go.Proofs.Ytilkfgpcibdikaa
open Go.RowKit

/- nothing has turned but one block -/
structure GB (b : Nat) (w w' : World) : Prop where
  g : w.grownBy w' (some b)
theorem GB.ofGr {b : Nat} {w w' : World} (g : Gr w w') : GB b w w' := ⟨⟨g.below.os, g.below.tape, g.below.output, g.size, fun k hk _ => g.below.block k hk⟩⟩
theorem GB.refl (b : Nat) (w : World) : GB b w w := GB.ofGr (Gr.refl _)
theorem GB.size {b : Nat} {w w' : World} (h : GB b w w') : w.heap.size ≤ w'.heap.size := h.g.size
theorem GB.trans {b : Nat} {u v w : World} (h : GB b u v) (k : GB b v w) : GB b u w := by
  have hs := h.size
  refine ⟨⟨?_, ?_, ?_, Nat.le_trans h.size k.size, ?_⟩⟩
  · exact k.g.os.trans h.g.os
  · exact k.g.tape.trans h.g.tape
  · exact k.g.output.trans h.g.output
  · intro i hi hne
    exact (k.g.block i (by omega) hne).trans (h.g.block i hi hne)
theorem GB.alloc {b : Nat} {a w : World} (h : GB b a w) {o : Obj} : GB b a (w.alloc o) := h.trans (GB.ofGr (Gr.refl _).alloc)
theorem GB.drew {b : Nat} {a w : World} (h : GB b a w) : GB b a w.drew := h.trans (GB.ofGr (Gr.refl _).drew)
theorem GB.gr {b : Nat} {a w w' : World} (h : GB b a w) (g : Gr w w') : GB b a w' := h.trans (GB.ofGr g)
theorem GB.setNew {b : Nat} {a w : World} (h : GB b a w) (p : Addr) (v : Value) (hp : a.heap.size ≤ p.block ∨ p.block = b) : GB b a (w.setCell p v) :=
  ⟨⟨h.g.os, h.g.tape, h.g.output, by simpa [World.setCell] using h.size, fun k hk hne => (Below.heap_setCell _ _ _ _ (fun e => by
    rcases hp with hp | hp
    · omega
    · exact hne (by rw [e, hp]))).trans (h.g.block k hk hne)⟩⟩
theorem GB.keep {b : Nat} {w w' : World} (h : GB b w w') {g o : Nat} {v : Value} (hg : g < w.heap.size) (hne : g ≠ b) (hc : w.cell? ⟨g, o, none⟩ = some v) : w'.cell? ⟨g, o, none⟩ = some v := by
  rw [← hc]; exact World.cell?_of_block (w := w) (h.g.block g hg (by simp; omega))
theorem GB.keepF {b : Nat} {w w' : World} (h : GB b w w') {g o : Nat} {v : Bool} (hg : g < w.heap.size) (hne : g ≠ b) (hc : w.frozen? ⟨g, o, none⟩ = v) : w'.frozen? ⟨g, o, none⟩ = v := by
  rw [← hc]; exact World.frozen?_of_block (w := w) (h.g.block g hg (by simp; omega))
theorem Gr.gb {b : Nat} {a w w' : World} (g : Gr a w) (h : GB b w w') (hb : a.heap.size ≤ b) : Gr a w' := ⟨g.below.grown h.g g.size (fun k e => by cases e; exact hb)⟩
end Go.Proofs.Ytilkfgpcibdikaa
