/- A row of ids that came in, opened. -/
import Derived.Test.YtmidlcipbpchgaaDoorOpenI
import Derived.Test.YtmidlcipbpchgaaDoorUndP
import Derived.Test.YtmidlcipbpchgaaDoorFewP
namespace Go.Proofs.YtmidlcipbpchgaaDoor
open Go.ChangeShapes Go.WideShapes Go.ChangeAt Go.RowKit

theorem lens_tops {w : World} {ad : Option Addr} {T : List Top} (h : TopsAt w ad T) : LensAt w ad (T.map fun t => t.L.length) := by
  intro j hj
  have hj' : j < T.length := by simpa using hj
  obtain ⟨b, off, e, hb, _, _, h3, _⟩ := h j hj'
  exact ⟨b, off, e, hb, T[j].ad, T[j].cap, by simpa using h3⟩

set_option maxRecDepth 100000 in
theorem open_ids {H : Type} {enc : TypeId × Value → H} {W : World} {base : Nat} {v : Value} {d : DataW H} {ps : List MemPlace}
    (hok : Value.okWide Tryd.prog W .any base 42 v) (h : DataW.Trod enc Tryd.prog W 0 (fun _ => true) true 42 v d ps) :
    ∃ ad cap, ∃ T : List Top, v = .slice ad T.length cap ∧ TopsAt W ad T ∧ T.length ≤ 9223372036854775807 := by
  obtain ⟨a0, len0, cap0, rfl⟩ := okWide_slice Tryd.underlying42 hok
  obtain ⟨fuel, hf⟩ := h
  rcases Deep.open_slice Tryd.underlying42 hf with ⟨hcs, _⟩ | ⟨a, len, cap, m, n, D, Pl, hcs, _, hl, hm, hmm, _, hx⟩
  · simp [Value.cells] at hcs
    obtain ⟨rfl, rfl, rfl⟩ := hcs
    exact ⟨none, 0, [], rfl, fun j hj => absurd hj (by simp), by simp⟩
  · simp [Value.cells] at hcs
    obtain ⟨rfl, rfl, rfl⟩ := hcs
    have hlm : len0 ≤ m := by rw [hmm]; split <;> omega
    have ce : Tryd.prog.cellsOf 24 = 3 := by kernel_rfl
    have k0 : Tryd.prog.cellsOf 3 = 1 := by kernel_rfl
    have k1 : Tryd.prog.cellsOf 22 = 1 := by kernel_rfl
    have each : ∀ i, i < len0 → ∃ t : Top, W.cell? (a.add (i * 3)) = some (.int .i64 t.r) ∧ W.cell? (a.add (i * 3 + 1)) = some (.int .i64 t.n) ∧ W.cell? (a.add (i * 3 + 2)) = some (.slice t.ad t.L.length t.cap) ∧ HopsAt W t.ad t.L ∧ t.L.length ≤ 9223372036854775807 := by
      intro i hi
      obtain ⟨cs, h1, h2⟩ := hx i (by omega)
      rw [ce] at h1
      obtain ⟨_, hlen, hcell⟩ := World.cells?_some h1
      obtain ⟨y0, y1, y2, q, _, _, t0, t1, t2⟩ := Deep.trod_struct3 Tryd.underlying24 h2
      match cs, hlen with
      | [v0, v1, v2], _ =>
        simp [k0, k1] at t0 t1 t2
        obtain ⟨z0, e0, _⟩ := DataW.trod_int Tryd.underlying3 t0
        obtain ⟨z1, e1, _⟩ := DataW.trod_int Tryd.underlying3 t1
        obtain ⟨ad, c, L, e2, g1, g2, _, _⟩ := open_hops t2
        simp at e0 e1
        subst e0 e1 e2
        have c0 := hcell 0 (by omega)
        have c1 := hcell 1 (by omega)
        have c2 := hcell 2 (by omega)
        rw [Deep.add_add] at c0 c1 c2
        exact ⟨⟨z0, z1, L, ad, c⟩, by simpa using c0, by simpa using c1, by simpa using c2, g1, g2⟩
    have hin : Inhabited Top := ⟨⟨0, 0, [], none, 0⟩⟩
    obtain ⟨f, hfq⟩ := Deep.choose_lt each
    unfold maxLen at hm
    refine ⟨some a, cap0, (List.range len0).map f, by simp, ?_, by simp; omega⟩
    intro j hj
    have hj' : j < len0 := by simpa using hj
    obtain ⟨c0, c1, c2, g1, g2⟩ := hfq j hj'
    obtain ⟨b, off, spot⟩ := a
    have hspot : spot = none := by
      have := World.cell?_spot (hfq 0 (by omega)).1
      simpa [Addr.add] using this
    subst hspot
    rw [Addr.add_lit] at c0 c1 c2
    refine ⟨b, off, rfl, World.block_lt_of_cell? W _ c0, by simpa using c0, ?_, ?_, by simpa using g1, by simpa using g2⟩
    · rw [← Nat.add_assoc] at c1; simpa using c1
    · rw [← Nat.add_assoc] at c2; simpa using c2
end Go.Proofs.YtmidlcipbpchgaaDoor
