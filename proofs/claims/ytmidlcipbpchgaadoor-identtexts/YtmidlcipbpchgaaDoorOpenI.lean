/- An id that came in, opened. -/
import Derived.Test.YtmidlcipbpchgaaDoorRows
import Derived.Test.YtmidlcipbpchgaaDoorIdA
import Derived.ProofKit
import Derived.OpenShut
import Derived.Deep.SlicePairs
import Derived.Deep.Strs
namespace Go.Proofs.YtmidlcipbpchgaaDoor
open Go.ChangeShapes Go.WideShapes Go.ChangeAt Go.RowKit

theorem open_hops {H : Type} {enc : TypeId × Value → H} {W : World} {base : Nat} {sp : Nat → Bool} {held : Bool} {fuel : Nat} {c : Value} {x : DataW H × List MemPlace}
    (h : DataW.trod enc Tryd.prog W base sp held fuel 22 [c] = some x) :
    ∃ ad cap, ∃ L : List (Int × Int), c = .slice ad L.length cap ∧ HopsAt W ad L ∧ L.length ≤ 9223372036854775807 ∧ L.length ≤ cap ∧ (ad = none → cap = 0) := by
  rcases Deep.open_slice_pairs Tryd.underlying22 Tryd.underlying55 (by kernel_rfl) rfl rfl (by kernel_rfl) (by kernel_rfl) h with ⟨hcs, _⟩ | ⟨a, len, cap, m, n, V0, V1, D0, D1, P0, P1, hcs, _, hl, hm, hmm, _, hx⟩
  · simp at hcs
    subst hcs
    exact ⟨none, 0, [], rfl, HopsAt.nil, by simp, by simp, fun _ => rfl⟩
  · simp at hcs
    subst hcs
    have hlm : len ≤ m := by rw [hmm]; split <;> omega
    have hint : ∀ i, i < len → ∃ q : Int × Int, W.cell? (a.add (i * 2)) = some (.int .i64 q.1) ∧ W.cell? (a.add (i * 2 + 1)) = some (.int .i64 q.2) := by
      intro i hi
      obtain ⟨h0, h1, t0, t1⟩ := hx i (by omega)
      obtain ⟨z0, e0, _⟩ := DataW.trod_int Tryd.underlying3 t0
      obtain ⟨z1, e1, _⟩ := DataW.trod_int Tryd.underlying3 t1
      simp at e0 e1
      exact ⟨(z0, z1), by rw [h0, e0], by rw [h1, e1]⟩
    obtain ⟨q, hq⟩ := Deep.choose_lt hint
    unfold maxLen at hm
    refine ⟨some a, cap, (List.range len).map q, by simp, ?_, by simp; omega, by simpa using hl, fun e => by cases e⟩
    intro j hj
    have hj' : j < len := by simpa using hj
    obtain ⟨c0, c1⟩ := hq j hj'
    obtain ⟨b, off, spot⟩ := a
    have hspot : spot = none := by simpa [Addr.add] using World.cell?_spot (hq 0 (by omega)).1
    subst hspot
    rw [Addr.add_lit] at c0 c1
    refine ⟨b, off, rfl, World.block_lt_of_cell? W _ c0, by simpa using c0, ?_⟩
    rw [← Nat.add_assoc] at c1
    simpa using c1

set_option maxRecDepth 100000 in
theorem open_id {H : Type} {enc : TypeId × Value → H} {W : World} {base : Nat} {v : Value} {d : DataW H} {ps : List MemPlace}
    (hok : Value.okWide Tryd.prog W .any base 24 v) (h : DataW.Trod enc Tryd.prog W 0 (fun _ => true) true 24 v d ps) :
    ∃ r n ad cap, ∃ L : List (Int × Int), v = .agg #[.int .i64 r, .int .i64 n, .slice ad L.length cap] ∧ HopsAt W ad L ∧ L.length ≤ 9223372036854775807 ∧ L.length ≤ cap ∧ (ad = none → cap = 0) := by
  obtain ⟨cs, rfl, hsz⟩ := okWide_struct Tryd.underlying24 hok
  have hsz3 : cs.size = 3 := hsz.trans (by kernel_rfl)
  obtain ⟨l⟩ := cs
  match l, hsz3 with
  | [a, b, c], _ =>
    obtain ⟨fuel, hf⟩ := h
    obtain ⟨y0, y1, y2, n, _, _, t0, t1, t2⟩ := Deep.trod_struct3 Tryd.underlying24 hf
    have k0 : Tryd.prog.cellsOf 3 = 1 := by kernel_rfl
    have k1 : Tryd.prog.cellsOf 22 = 1 := by kernel_rfl
    simp [Value.cells, k0, k1] at t0 t1 t2
    obtain ⟨z0, e0, _⟩ := DataW.trod_int Tryd.underlying3 t0
    obtain ⟨z1, e1, _⟩ := DataW.trod_int Tryd.underlying3 t1
    obtain ⟨ad, cap, L, e2, h1, h2, h3, h4⟩ := open_hops t2
    simp at e0 e1
    subst e0 e1 e2
    exact ⟨z0, z1, ad, cap, L, rfl, h1, h2, h3, h4⟩
end Go.Proofs.YtmidlcipbpchgaaDoor
