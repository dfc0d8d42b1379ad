import Derived.Test.YtilkfgpcibdikaaRows
import Derived.Test.YtilkfgpcibdikaaIdA
import Derived.ProofKit
import Derived.OpenShut
import Derived.Deep.SlicePairs
import Derived.Deep.Strs
import Derived.Test.YtilkfgpcibdikaaNtM

/- An id that came in, opened. -/
namespace Go.Proofs.Ytilkfgpcibdikaa
open Go.ChangeShapes Go.WideShapes Go.ChangeAt Go.RowKit

theorem open_hops {H : Type} {enc : TypeId × Value → H} {W : World} {base : Nat} {sp : Nat → Bool} {held : Bool} {fuel : Nat} {c : Value} {x : DataW H × List MemPlace}
    (h : DataW.trod enc Try.prog W base sp held fuel 33 [c] = some x) :
    ∃ ad cap, ∃ L : List (Int × Int), c = .slice ad L.length cap ∧ HopsAt W ad L ∧ L.length ≤ 9223372036854775807 ∧ L.length ≤ cap ∧ (ad = none → cap = 0) := by
  rcases Deep.open_slice_pairs Try.underlying33 Try.underlying63 (by kernel_rfl) rfl rfl (by kernel_rfl) (by kernel_rfl) h with ⟨hcs, _⟩ | ⟨a, len, cap, m, n, V0, V1, D0, D1, P0, P1, hcs, _, hl, hm, hmm, _, hx⟩
  · simp at hcs
    subst hcs
    exact ⟨none, 0, [], rfl, HopsAt.nil, by simp, by simp, fun _ => rfl⟩
  · simp at hcs
    subst hcs
    have hlm : len ≤ m := by rw [hmm]; split <;> omega
    have hint : ∀ i, i < len → ∃ q : Int × Int, W.cell? (a.add (i * 2)) = some (.int .i64 q.1) ∧ W.cell? (a.add (i * 2 + 1)) = some (.int .i64 q.2) := by
      intro i hi
      obtain ⟨h0, h1, t0, t1⟩ := hx i (by omega)
      obtain ⟨z0, e0, _⟩ := DataW.trod_int Try.underlying3 t0
      obtain ⟨z1, e1, _⟩ := DataW.trod_int Try.underlying3 t1
      simp at e0 e1
      exact ⟨(z0, z1), by rw [h0, e0], by rw [h1, e1]⟩
    obtain ⟨q, hq⟩ := Deep.choose_lt hint
    unfold maxLen at hm
    refine ⟨some a, cap, (List.range len).map q, by simp, ?_, by simp; omega, by simpa using hl, fun e => by cases e⟩
    intro j hj
    have hj' : j < len := by simpa using hj
    obtain ⟨c0, c1⟩ := hq j hj'
    obtain ⟨b, off, spot⟩ := a
    have hspot : spot = none := by simpa [Addr.add] using World.cell?_spot (hq 0 (by omega)).1
    subst hspot
    rw [Addr.add_lit] at c0 c1
    refine ⟨b, off, rfl, World.block_lt_of_cell? W _ c0, by simpa using c0, ?_⟩
    rw [← Nat.add_assoc] at c1
    simpa using c1

set_option maxRecDepth 100000 in
theorem open_id {H : Type} {enc : TypeId × Value → H} {W : World} {base : Nat} {v : Value} {d : DataW H} {ps : List MemPlace}
    (hok : Value.okWide Try.prog W .any base 35 v) (h : DataW.Trod enc Try.prog W 0 (fun _ => true) true 35 v d ps) :
    ∃ r n ad cap, ∃ L : List (Int × Int), v = .agg #[.int .i64 r, .int .i64 n, .slice ad L.length cap] ∧ HopsAt W ad L ∧ L.length ≤ 9223372036854775807 ∧ L.length ≤ cap ∧ (ad = none → cap = 0) := by
  obtain ⟨cs, rfl, hsz⟩ := okWide_struct Try.underlying35 hok
  have hsz3 : cs.size = 3 := hsz.trans (by kernel_rfl)
  obtain ⟨l⟩ := cs
  match l, hsz3 with
  | [a, b, c], _ =>
    obtain ⟨fuel, hf⟩ := h
    obtain ⟨y0, y1, y2, n, _, _, t0, t1, t2⟩ := Deep.trod_struct3 Try.underlying35 hf
    have k0 : Try.prog.cellsOf 3 = 1 := by kernel_rfl
    have k1 : Try.prog.cellsOf 33 = 1 := by kernel_rfl
    simp [Value.cells, k0, k1] at t0 t1 t2
    obtain ⟨z0, e0, _⟩ := DataW.trod_int Try.underlying3 t0
    obtain ⟨z1, e1, _⟩ := DataW.trod_int Try.underlying3 t1
    obtain ⟨ad, cap, L, e2, h1, h2, h3, h4⟩ := open_hops t2
    simp at e0 e1
    subst e0 e1 e2
    exact ⟨z0, z1, ad, cap, L, rfl, h1, h2, h3, h4⟩
end Go.Proofs.Ytilkfgpcibdikaa

/- A note and a frame that came in, opened. -/
namespace Go.Proofs.Ytilkfgpcibdikaa
open Go.ChangeShapes Go.WideShapes Go.ChangeAt Go.RowKit

set_option maxRecDepth 100000 in
theorem trod_id {H : Type} {enc : TypeId × Value → H} {W : World} {base : Nat} {sp : Nat → Bool} {held : Bool} {fuel : Nat} {a b c : Value} {x : DataW H × List MemPlace}
    (h : DataW.trod enc Try.prog W base sp held fuel 35 [a, b, c] = some x) :
    ∃ r n ad cap, ∃ L : List (Int × Int), a = .int .i64 r ∧ b = .int .i64 n ∧ c = .slice ad L.length cap ∧ HopsAt W ad L ∧ L.length ≤ 9223372036854775807 ∧ L.length ≤ cap := by
  obtain ⟨y0, y1, y2, n, _, _, t0, t1, t2⟩ := Deep.trod_struct3 Try.underlying35 h
  have k0 : Try.prog.cellsOf 3 = 1 := by kernel_rfl
  have k1 : Try.prog.cellsOf 33 = 1 := by kernel_rfl
  simp [k0, k1] at t0 t1 t2
  obtain ⟨z0, e0, _⟩ := DataW.trod_int Try.underlying3 t0
  obtain ⟨z1, e1, _⟩ := DataW.trod_int Try.underlying3 t1
  obtain ⟨ad, cap, L, e2, h1, h2, h3, h4⟩ := open_hops t2
  simp at e0 e1
  exact ⟨z0, z1, ad, cap, L, e0, e1, e2, h1, h2, h3⟩

/- what comes in as a note -/
def NtIn (W : World) (vs : List Value) (x : Nt) (ad : Option Addr) (cap : Nat) : Prop :=
  vs = [.int .i64 x.k, .int .i64 x.r, .int .i64 x.n, .slice ad x.L.length cap, .string x.d, .int .i64 x.y] ∧ HopsAt W ad x.L ∧ x.L.length ≤ 9223372036854775807 ∧ x.L.length ≤ cap ∧ x.d.size ≤ 9223372036854775807

set_option maxRecDepth 100000 in
theorem trod_note {H : Type} {enc : TypeId × Value → H} {W : World} {base : Nat} {sp : Nat → Bool} {held : Bool} {fuel : Nat} {c0 c1 c2 c3 c4 c5 : Value} {x : DataW H × List MemPlace}
    (h : DataW.trod enc Try.prog W base sp held fuel 37 [c0, c1, c2, c3, c4, c5] = some x) : ∃ x ad cap, NtIn W [c0, c1, c2, c3, c4, c5] x ad cap := by
  obtain ⟨xs, n, _, rfl, hl, hlen, hf⟩ := DataW.trod_struct Try.underlying37 h
  have k0 : Try.prog.cellsOf 3 = 1 := by kernel_rfl
  have k1 : Try.prog.cellsOf 9 = 1 := by kernel_rfl
  have k3 : Try.prog.cellsOf 35 = 3 := by kernel_rfl
  match xs, hlen with
  | [y0, y1, y2, y3], _ =>
    have t0 := hf 0 _ rfl
    have t1 := hf 1 _ rfl
    have t2 := hf 2 _ rfl
    have t3 := hf 3 _ rfl
    simp [k0, k1, k3] at t0 t1 t2 t3
    obtain ⟨z0, e0, _⟩ := DataW.trod_int Try.underlying3 t0
    obtain ⟨r, m, ad, cap, L, e1, e2, e3, h1, h2, h3⟩ := trod_id t1
    obtain ⟨z4, e4, _, r4⟩ := DataW.trod_string Try.underlying9 t2
    obtain ⟨z5, e5, _⟩ := DataW.trod_int Try.underlying3 t3
    simp at e0 e4 e5
    subst e0 e1 e2 e3 e4 e5
    unfold maxLen at r4
    exact ⟨⟨z0, r, m, L, z4, z5⟩, ad, cap, rfl, h1, h2, h3, by show z4.size ≤ _; omega⟩

set_option maxRecDepth 100000 in
theorem open_note {H : Type} {enc : TypeId × Value → H} {W : World} {base : Nat} {v : Value} {d : DataW H} {ps : List MemPlace}
    (hok : Value.okWide Try.prog W .any base 37 v) (h : DataW.Trod enc Try.prog W 0 (fun _ => true) true 37 v d ps) :
    ∃ (x : Nt) (ad : Option Addr) (cap : Nat), v = .agg #[.int .i64 x.k, .int .i64 x.r, .int .i64 x.n, .slice ad x.L.length cap, .string x.d, .int .i64 x.y] ∧ HopsAt W ad x.L ∧ x.L.length ≤ 9223372036854775807 ∧ x.L.length ≤ cap ∧ x.d.size ≤ 9223372036854775807 := by
  obtain ⟨cs, rfl, hsz⟩ := okWide_struct Try.underlying37 hok
  have hsz6 : cs.size = 6 := hsz.trans (by kernel_rfl)
  obtain ⟨l⟩ := cs
  match l, hsz6 with
  | [c0, c1, c2, c3, c4, c5], _ =>
    obtain ⟨fuel, hf⟩ := h
    obtain ⟨x, ad, cap, e, h1, h2, h3, h4⟩ := trod_note (by simpa [Value.cells] using hf)
    exact ⟨x, ad, cap, by rw [e], h1, h2, h3, h4⟩

end Go.Proofs.Ytilkfgpcibdikaa
