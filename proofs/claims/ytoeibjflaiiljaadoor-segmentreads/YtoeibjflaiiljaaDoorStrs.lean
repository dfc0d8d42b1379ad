
/- Rows of strings in memory, and small laws on them. -/
import Derived.Test.YtoeibjflaiiljaaDoorIntA
namespace Go.Proofs.YtoeibjflaiiljaaDoor
open Go.RowKit

/- a row of strings in memory, its address whatever where there is none -/
def StrsAt (w : World) (ad : Option Addr) (L : List ByteArray) : Prop :=
  ∀ j (h : j < L.length), ∃ b off, ad = some ⟨b, off, none⟩ ∧ b < w.heap.size ∧ w.cell? ⟨b, off + j, none⟩ = some (.string L[j])
theorem StrsAt.gr {w w' : World} {ad : Option Addr} {L : List ByteArray} (h : StrsAt w ad L) (g : Gr w w') : StrsAt w' ad L := by
  intro j hj
  obtain ⟨b, off, e, hb, hc⟩ := h j hj
  exact ⟨b, off, e, Nat.lt_of_lt_of_le hb g.size, (g.below.cell (p := ⟨b, off + j, none⟩) hb).trans hc⟩

theorem mk_data (s : ByteArray) : (⟨s.data.toList.toArray⟩ : ByteArray) = s := by simp

theorem info9 : (Tryd.prog.info? 9).map (fun i => (i.zero, i.size, i.bytes)) = some (some (.string ⟨#[]⟩), 1, 16) := by kernel_rfl

def mkT (t : List UInt8) : ByteArray := ⟨t.toArray⟩
def strV (l : List (List UInt8)) : List Value := l.map fun t => Value.string (mkT t)
theorem strV_snoc (l : List (List UInt8)) (t : List UInt8) : strV (l ++ [t]) = strV l ++ [.string (mkT t)] := by simp [strV]

/- a row of strings that the call owns -/
theorem own_strs {base : Nat} {v : Value} {l : List (List UInt8)} {w : World} (h : w.ownsRow base 9 1 v l.length (strV l)) : ∃ ad cap, v = .slice ad l.length cap ∧ StrsAt w ad (l.map mkT) := by
  have hcell := fun g (hg : v.ownBlock = some g) => h.cells hg
  have hlt := h.lt
  obtain ⟨_, ⟨rfl, h0⟩ | ⟨g, cap, cur, rfl, _⟩⟩ := h
  · have : l = [] := List.length_eq_zero_iff.1 h0
    subst this
    exact ⟨none, 0, rfl, fun j hj => absurd hj (by simp)⟩
  · refine ⟨some ⟨g, 0, none⟩, cap, rfl, ?_⟩
    intro j hj
    have hj' : j < l.length := by simpa using hj
    refine ⟨g, 0, rfl, (hlt g rfl).2, ?_⟩
    have := hcell g rfl j (.string (mkT l[j])) (by simp [strV, hj'])
    rw [Addr.add_lit] at this
    simpa using this

theorem grownBy_block {w w' : World} {b : Nat} (h : w.grownBy w' (some b)) {k : Nat} (hk : k < w.heap.size) (hne : k ≠ b) : w'.heap[k]? = w.heap[k]? := h.block k hk (by simpa using hne)

end Go.Proofs.YtoeibjflaiiljaaDoor
