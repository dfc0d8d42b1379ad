/- A pot, and a row of pots, that came in, opened. -/
import Derived.Test.YtjifhfnigngcjaaRows
import Derived.Test.YtjifhfnigngcjaaRowA
import Derived.ProofKit
import Derived.OpenShut
import Derived.Deep.SlicePairs
import Derived.Deep.Strs
namespace Go.Proofs.Ytjifhfnigngcjaa
open Go.ChangeShapes Go.WideShapes Go.ChangeAt Go.RowKit

theorem own2 : ownKnob Try.prog.godebug = none := by kernel_rfl
theorem laidOut2 : laidOutB Try.prog = true := by kernel_rfl
theorem rng_i64 {n : Int} (h : (Lit.int .i64 n).wf = true) : -9223372036854775808 ≤ n ∧ n ≤ 9223372036854775807 := by
  simp only [Lit.wf, Bool.and_eq_true, decide_eq_true_eq] at h
  exact h

/- the numbers of a pot are numbers of 64 bits -/
def inB (h i o : Int) : Prop := (-9223372036854775808 ≤ h ∧ h ≤ 9223372036854775807) ∧ (-9223372036854775808 ≤ i ∧ i ≤ 9223372036854775807) ∧ (-9223372036854775808 ≤ o ∧ o ≤ 9223372036854775807)

set_option maxRecDepth 100000 in
theorem open_pot {H : Type} {enc : TypeId × Value → H} {W : World} {base : Nat} {v : Value} {d : DataW H} {ps : List MemPlace}
    (hok : Value.okWide Try.prog W .any base 23 v) (h : DataW.Trod enc Try.prog W 0 (fun _ => true) true 23 v d ps) :
    ∃ h i o, v = .agg #[.int .i64 h, .int .i64 i, .int .i64 o] ∧ inB h i o := by
  obtain ⟨cs, rfl, hsz⟩ := okWide_struct Try.underlying23 hok
  have hsz3 : cs.size = 3 := hsz.trans (by kernel_rfl)
  obtain ⟨l⟩ := cs
  match l, hsz3 with
  | [a, b, c], _ =>
    obtain ⟨fuel, hf⟩ := h
    obtain ⟨y0, y1, y2, n, _, _, t0, t1, t2⟩ := Deep.trod_struct3 Try.underlying23 hf
    have k0 : Try.prog.cellsOf 2 = 1 := by kernel_rfl
    simp [Value.cells, k0] at t0 t1 t2
    obtain ⟨z0, e0, _, r0⟩ := DataW.trod_int Try.underlying2 t0
    obtain ⟨z1, e1, _, r1⟩ := DataW.trod_int Try.underlying2 t1
    obtain ⟨z2, e2, _, r2⟩ := DataW.trod_int Try.underlying2 t2
    simp at e0 e1 e2
    subst e0 e1 e2
    exact ⟨z0, z1, z2, rfl, rng_i64 r0, rng_i64 r1, rng_i64 r2⟩

set_option maxRecDepth 100000 in
theorem open_pots {H : Type} {enc : TypeId × Value → H} {W : World} {base : Nat} {v : Value} {d : DataW H} {ps : List MemPlace}
    (hok : Value.okWide Try.prog W .any base 35 v) (h : DataW.Trod enc Try.prog W 0 (fun _ => true) true 35 v d ps) :
    ∃ ad cap, ∃ T : List Three, v = .slice ad T.length cap ∧ PotsAt W ad T ∧ T.length ≤ 9223372036854775807 ∧ ∀ t ∈ T, inB t.h t.i t.o := by
  obtain ⟨a0, len0, cap0, rfl⟩ := okWide_slice Try.underlying35 hok
  obtain ⟨fuel, hf⟩ := h
  rcases Deep.open_slice Try.underlying35 hf with ⟨hcs, _⟩ | ⟨a, len, cap, m, n, D, Pl, hcs, _, hl, hm, hmm, _, hx⟩
  · simp [Value.cells] at hcs
    obtain ⟨rfl, rfl, rfl⟩ := hcs
    exact ⟨none, 0, [], rfl, fun j hj => absurd hj (by simp), by simp, by simp⟩
  · simp [Value.cells] at hcs
    obtain ⟨rfl, rfl, rfl⟩ := hcs
    have hlm : len0 ≤ m := by rw [hmm]; split <;> omega
    have ce : Try.prog.cellsOf 23 = 3 := by kernel_rfl
    have k0 : Try.prog.cellsOf 2 = 1 := by kernel_rfl
    have each : ∀ i, i < len0 → ∃ t : Three, W.cell? (a.add (i * 3)) = some (.int .i64 t.h) ∧ W.cell? (a.add (i * 3 + 1)) = some (.int .i64 t.i) ∧ W.cell? (a.add (i * 3 + 2)) = some (.int .i64 t.o) ∧ inB t.h t.i t.o := by
      intro i hi
      obtain ⟨cs, h1, h2⟩ := hx i (by omega)
      rw [ce] at h1
      obtain ⟨_, hlen, hcell⟩ := World.cells?_some h1
      obtain ⟨y0, y1, y2, q, _, _, t0, t1, t2⟩ := Deep.trod_struct3 Try.underlying23 h2
      match cs, hlen with
      | [v0, v1, v2], _ =>
        simp [k0] at t0 t1 t2
        obtain ⟨z0, e0, _, r0⟩ := DataW.trod_int Try.underlying2 t0
        obtain ⟨z1, e1, _, r1⟩ := DataW.trod_int Try.underlying2 t1
        obtain ⟨z2, e2, _, r2⟩ := DataW.trod_int Try.underlying2 t2
        simp at e0 e1 e2
        subst e0 e1 e2
        have c0 := hcell 0 (by omega)
        have c1 := hcell 1 (by omega)
        have c2 := hcell 2 (by omega)
        rw [Deep.add_add] at c0 c1 c2
        exact ⟨⟨z0, z1, z2⟩, by simpa using c0, by simpa using c1, by simpa using c2, rng_i64 r0, rng_i64 r1, rng_i64 r2⟩
    have hin : Inhabited Three := ⟨⟨0, 0, 0⟩⟩
    obtain ⟨f, hfq⟩ := Deep.choose_lt each
    unfold maxLen at hm
    refine ⟨some a, cap0, (List.range len0).map f, by simp, ?_, by simp; omega, ?_⟩
    · intro j hj
      have hj' : j < len0 := by simpa using hj
      obtain ⟨c0, c1, c2, _⟩ := hfq j hj'
      obtain ⟨b, off, spot⟩ := a
      have hspot : spot = none := by
        have := World.cell?_spot (hfq 0 (by omega)).1
        simpa [Addr.add] using this
      subst hspot
      rw [Addr.add_lit] at c0 c1 c2
      refine ⟨b, off, rfl, World.block_lt_of_cell? W _ c0, by simpa using c0, ?_, ?_⟩
      · rw [← Nat.add_assoc] at c1; simpa using c1
      · rw [← Nat.add_assoc] at c2; simpa using c2
    · intro t ht
      obtain ⟨j, hj, rfl⟩ := List.mem_map.1 ht
      exact (hfq j (by simpa using hj)).2.2.2
end Go.Proofs.Ytjifhfnigngcjaa
