/- A token, and a row of tokens, that came in, opened. -/
import Derived.Test.YtdliljijgokpjaaDoorRows
import Derived.Test.YtdliljijgokpjaaDoorLexA
import Derived.ProofKit
import Derived.OpenShut
import Derived.Deep.SlicePairs
import Derived.Deep.Strs
namespace Go.Proofs.YtdliljijgokpjaaDoor
open Go.ChangeShapes Go.WideShapes Go.ChangeAt Go.RowKit
open Lex (Tok)

theorem own2 : ownKnob Tryd.prog.godebug = none := by kernel_rfl
theorem laidOut2 : laidOutB Tryd.prog = true := by kernel_rfl
theorem rng_i64 {n : Int} (h : (Lit.int .i64 n).wf = true) : -9223372036854775808 ≤ n ∧ n ≤ 9223372036854775807 := by
  simp only [Lit.wf, Bool.and_eq_true, decide_eq_true_eq] at h
  exact h
theorem len_max {n : Nat} (h : n ≤ maxLen) : n ≤ 9223372036854775807 := by unfold maxLen at h; omega
def inK (x : Tok) : Prop := (-9223372036854775808 ≤ x.k ∧ x.k ≤ 9223372036854775807) ∧ x.t.size ≤ 9223372036854775807 ∧ (-9223372036854775808 ≤ x.p ∧ x.p ≤ 9223372036854775807)

set_option maxRecDepth 100000 in
theorem trod_tok {H : Type} {enc : TypeId × Value → H} {W : World} {base : Nat} {sp : Nat → Bool} {held : Bool} {fuel : Nat} {u v q : Value} {x : DataW H × List MemPlace}
    (h : DataW.trod enc Tryd.prog W base sp held fuel 66 [u, v, q] = some x) : ∃ t : Tok, u = .int .i64 t.k ∧ v = .string t.t ∧ q = .int .i64 t.p ∧ inK t := by
  obtain ⟨y0, y1, y2, n, _, _, t0, t1, t2⟩ := Deep.trod_struct3 Tryd.underlying66 h
  have k0 : Tryd.prog.cellsOf 3 = 1 := by kernel_rfl
  have k1 : Tryd.prog.cellsOf 9 = 1 := by kernel_rfl
  simp [k0, k1] at t0 t1 t2
  obtain ⟨z0, e0, _, r0⟩ := DataW.trod_int Tryd.underlying3 t0
  obtain ⟨z1, e1, _, r1⟩ := DataW.trod_string Tryd.underlying9 t1
  obtain ⟨z2, e2, _, r2⟩ := DataW.trod_int Tryd.underlying3 t2
  simp at e0 e1 e2
  subst e0 e1 e2
  unfold maxLen at r1
  exact ⟨⟨z0, z1, z2⟩, rfl, rfl, rfl, rng_i64 r0, (by show z1.size ≤ _; omega), rng_i64 r2⟩
set_option maxRecDepth 100000 in
theorem open_tok {H : Type} {enc : TypeId × Value → H} {W : World} {base : Nat} {v : Value} {d : DataW H} {ps : List MemPlace}
    (hok : Value.okWide Tryd.prog W .any base 66 v) (h : DataW.Trod enc Tryd.prog W 0 (fun _ => true) true 66 v d ps) :
    ∃ t : Tok, v = .agg #[.int .i64 t.k, .string t.t, .int .i64 t.p] ∧ inK t := by
  obtain ⟨cs, rfl, hsz⟩ := okWide_struct Tryd.underlying66 hok
  have hsz3 : cs.size = 3 := hsz.trans (by kernel_rfl)
  obtain ⟨l⟩ := cs
  match l, hsz3 with
  | [a, b, c], _ =>
    obtain ⟨fuel, hf⟩ := h
    simp only [Value.cells] at hf
    obtain ⟨t, rfl, rfl, rfl, hT⟩ := trod_tok hf
    exact ⟨t, rfl, hT⟩
set_option maxRecDepth 100000 in
theorem open_toks {H : Type} {enc : TypeId × Value → H} {W : World} {base : Nat} {v : Value} {d : DataW H} {ps : List MemPlace}
    (hok : Value.okWide Tryd.prog W .any base 35 v) (h : DataW.Trod enc Tryd.prog W 0 (fun _ => true) true 35 v d ps) :
    ∃ ad cap, ∃ T : List Tok, v = .slice ad T.length cap ∧ ToksAt W ad T ∧ T.length ≤ cap ∧ T.length ≤ 9223372036854775807 ∧ ∀ t ∈ T, inK t := by
  obtain ⟨a0, len0, cap0, rfl⟩ := okWide_slice Tryd.underlying35 hok
  obtain ⟨fuel, hf⟩ := h
  rcases Deep.open_slice Tryd.underlying35 hf with ⟨hcs, _⟩ | ⟨a, len, cap, m, n, D, Pl, hcs, _, hl, hm, hmm, _, hx⟩
  · simp [Value.cells] at hcs
    obtain ⟨rfl, rfl, rfl⟩ := hcs
    exact ⟨none, 0, [], rfl, fun j hj => absurd hj (by simp), by simp, by simp, by simp⟩
  · simp [Value.cells] at hcs
    obtain ⟨rfl, rfl, rfl⟩ := hcs
    have hlm : len0 ≤ m := by rw [hmm]; split <;> omega
    have ce : Tryd.prog.cellsOf 66 = 3 := by kernel_rfl
    have each : ∀ i, i < len0 → ∃ t : Tok, W.cell? (a.add (i * 3)) = some (.int .i64 t.k) ∧ W.cell? (a.add (i * 3 + 1)) = some (.string t.t) ∧ W.cell? (a.add (i * 3 + 2)) = some (.int .i64 t.p) ∧ inK t := by
      intro i hi
      obtain ⟨cs, h1, h2⟩ := hx i (by omega)
      rw [ce] at h1
      obtain ⟨_, hlen, hcell⟩ := World.cells?_some h1
      match cs, hlen with
      | [v0, v1, v2], _ =>
        obtain ⟨q, rfl, rfl, rfl, hT⟩ := trod_tok h2
        have c0 := hcell 0 (by omega)
        have c1 := hcell 1 (by omega)
        have c2 := hcell 2 (by omega)
        rw [Deep.add_add] at c0 c1 c2
        exact ⟨q, by simpa using c0, by simpa using c1, by simpa using c2, hT⟩
    have hin : Inhabited Tok := ⟨⟨0, ⟨#[]⟩, 0⟩⟩
    obtain ⟨f, hfq⟩ := Deep.choose_lt each
    unfold maxLen at hm
    refine ⟨some a, cap0, (List.range len0).map f, by simp, ?_, by simp; omega, by simp; omega, ?_⟩
    · intro j hj
      have hj' : j < len0 := by simpa using hj
      obtain ⟨c0, c1, c2, _⟩ := hfq j hj'
      obtain ⟨b, off, spot⟩ := a
      have hspot : spot = none := by
        have := World.cell?_spot (hfq 0 (by omega)).1
        simpa [Addr.add] using this
      subst hspot
      rw [Addr.add_lit] at c0 c1 c2
      refine ⟨b, off, rfl, World.block_lt_of_cell? W _ c0, by simpa using c0, ?_, ?_⟩
      · rw [← Nat.add_assoc] at c1; simpa using c1
      · rw [← Nat.add_assoc] at c2; simpa using c2
    · intro t ht
      obtain ⟨j, hj, rfl⟩ := List.mem_map.1 ht
      exact (hfq j (by simpa using hj)).2.2.2
end Go.Proofs.YtdliljijgokpjaaDoor
