
/- A window that came in, opened. -/
import Derived.Test.YtdgjgpcfpkpnlaaOpenO
import Derived.Test.YtdgjgpcfpkpnlaaWnA
import Derived.ChangeSame
namespace Go.Proofs.Ytdgjgpcfpkpnlaa
open Go.ChangeShapes Go.WideShapes Go.ChangeAt Go.RowKit
open Wn (Wd)

set_option maxRecDepth 100000 in
theorem trod_ints {H : Type} {enc : TypeId × Value → H} {W : World} {base fuel : Nat} {v : Value} {x : DataW H × List MemPlace}
    (hf : DataW.trod enc Try.prog W base (fun _ => true) true fuel 22 [v] = some x) :
    ∃ ad cap, ∃ l : List Int, v = .slice ad l.length cap ∧ IntsAt W ad l ∧ l.length ≤ 9223372036854775807 ∧ l.length ≤ cap ∧ (ad = none → cap = 0) := by
  rcases open_ints Try.underlying22 Try.underlying3 (by kernel_rfl) hf with ⟨hcs, _⟩ | ⟨a, len, cap, zs, hcs, _, hl, hm, hz, _, hcell, hw⟩
  · simp at hcs
    subst hcs
    exact ⟨none, 0, [], rfl, IntsAt.nil, by simp, by simp, fun _ => rfl⟩
  · simp at hcs
    subst hcs
    have hz' : zs.length = cap := by simpa using hz
    unfold maxLen at *
    refine ⟨some a, cap, zs.take len, by rw [List.length_take, Nat.min_eq_left (by omega)], ?_, by rw [List.length_take]; omega, by rw [List.length_take]; omega, fun e => by cases e⟩
    intro j hj
    rw [List.length_take] at hj
    have hc := hcell j (by omega)
    have h0 := hcell 0 (by omega)
    obtain ⟨b, off, spot⟩ := a
    have hspot : spot = none := by simpa [Addr.add] using World.cell?_spot h0
    subst hspot
    rw [Addr.add_lit] at hc
    refine ⟨b, off, rfl, World.block_lt_of_cell? W _ hc, ?_⟩
    rw [hc, List.getElem_take, List.getD_eq_getElem?_getD, List.getElem?_eq_getElem (by omega)]
    rfl
set_option maxRecDepth 100000 in
theorem open_win {H : Type} {enc : TypeId × Value → H} {W : World} {base : Nat} {v : Value} {d : DataW H} {ps : List MemPlace}
    (hok : Value.okWide Try.prog W .any base 24 v) (h : DataW.Trod enc Try.prog W 0 (fun _ => true) true 24 v d ps) :
    ∃ ad cap, ∃ V : Wd, v = wdV V.low ad V.seen.length cap ∧ WdAt W ad cap V := by
  obtain ⟨cs, rfl, hsz⟩ := okWide_struct Try.underlying24 hok
  have hsz2 : cs.size = 2 := hsz.trans (by kernel_rfl)
  obtain ⟨l⟩ := cs
  match l, hsz2 with
  | [v0, v1], _ =>
    obtain ⟨fuel, hf⟩ := h
    simp only [Value.cells] at hf
    obtain ⟨y0, y1, n, _, _, t0, t1⟩ := trod_struct2 Try.underlying24 hf
    have k0 : Try.prog.cellsOf 3 = 1 := by kernel_rfl
    have k1 : Try.prog.cellsOf 22 = 1 := by kernel_rfl
    simp [k0, k1] at t0 t1
    obtain ⟨z0, e0, _, r0⟩ := DataW.trod_int Try.underlying3 t0
    simp at e0
    subst e0
    obtain ⟨ad, cap, s, rfl, h1, h2, h3, h4⟩ := trod_ints t1
    have := rng_i64 r0
    exact ⟨ad, cap, ⟨z0, s⟩, rfl, h1, h3, h2, h4, this.1, this.2⟩
end Go.Proofs.Ytdgjgpcfpkpnlaa
