/- An activity, an account, and a row of activities, that came in, opened. -/
import Derived.Test.YtbiagpjndbknaaaRows
import Derived.Test.YtbiagpjndbknaaaAccA
import Derived.ProofKit
import Derived.OpenShut
import Derived.Deep.SlicePairs
import Derived.Deep.Strs
namespace Go.Proofs.Ytbiagpjndbknaaa
open Go.ChangeShapes Go.WideShapes Go.ChangeAt Go.RowKit

theorem own2 : ownKnob Try.prog.godebug = none := by kernel_rfl
theorem laidOut2 : laidOutB Try.prog = true := by kernel_rfl
theorem rng_i64 {n : Int} (h : (Lit.int .i64 n).wf = true) : -9223372036854775808 ≤ n ∧ n ≤ 9223372036854775807 := by
  simp only [Lit.wf, Bool.and_eq_true, decide_eq_true_eq] at h
  exact h

theorem len_max {n : Nat} (h : n ≤ maxLen) : n ≤ 9223372036854775807 := by unfold maxLen at h; omega

/- an activity; a row of these in memory, its address whatever where there is none -/
structure ActT where
  k : Int
  s : ByteArray
  n : Int
def ActsAt (w : World) (ad : Option Addr) (T : List ActT) : Prop :=
  ∀ j (h : j < T.length), ∃ b off, ad = some ⟨b, off, none⟩ ∧ b < w.heap.size ∧ w.cell? ⟨b, off + j * 3, none⟩ = some (.int .i64 T[j].k) ∧ w.cell? ⟨b, off + j * 3 + 1, none⟩ = some (.string T[j].s) ∧ w.cell? ⟨b, off + j * 3 + 2, none⟩ = some (.int .i64 T[j].n)
theorem ActsAt.gr {w w' : World} {ad : Option Addr} {T : List ActT} (h : ActsAt w ad T) (g : Gr w w') : ActsAt w' ad T := by
  intro j hj
  obtain ⟨b, off, e, hb, h1, h2, h3⟩ := h j hj
  exact ⟨b, off, e, Nat.lt_of_lt_of_le hb g.size, g.keep h1, g.keep h2, g.keep h3⟩
def inT (k : Int) (s : ByteArray) (n : Int) : Prop := (-9223372036854775808 ≤ k ∧ k ≤ 9223372036854775807) ∧ s.size ≤ 9223372036854775807 ∧ (-9223372036854775808 ≤ n ∧ n ≤ 9223372036854775807)
/- the numbers of an account are numbers of 64 bits, and its name is not too long -/
def inB (h i o : Int) : Prop := (-9223372036854775808 ≤ h ∧ h ≤ 9223372036854775807) ∧ (-9223372036854775808 ≤ i ∧ i ≤ 9223372036854775807) ∧ (-9223372036854775808 ≤ o ∧ o ≤ 9223372036854775807)
def inX (s : ByteArray) (a b c x y z : Int) : Prop := s.size ≤ 9223372036854775807 ∧ inB a b c ∧ inB x y z

set_option maxRecDepth 100000 in
theorem trod_act {H : Type} {enc : TypeId × Value → H} {W : World} {base : Nat} {sp : Nat → Bool} {held : Bool} {fuel : Nat} {u v q : Value} {x : DataW H × List MemPlace}
    (h : DataW.trod enc Try.prog W base sp held fuel 23 [u, v, q] = some x) : ∃ k s n, u = .int .i64 k ∧ v = .string s ∧ q = .int .i64 n ∧ inT k s n := by
  obtain ⟨y0, y1, y2, n, _, _, t0, t1, t2⟩ := Deep.trod_struct3 Try.underlying23 h
  have k0 : Try.prog.cellsOf 3 = 1 := by kernel_rfl
  have k1 : Try.prog.cellsOf 9 = 1 := by kernel_rfl
  have k2 : Try.prog.cellsOf 2 = 1 := by kernel_rfl
  simp [k0, k1, k2] at t0 t1 t2
  obtain ⟨z0, e0, _, r0⟩ := DataW.trod_int Try.underlying3 t0
  obtain ⟨z1, e1, _, r1⟩ := DataW.trod_string Try.underlying9 t1
  obtain ⟨z2, e2, _, r2⟩ := DataW.trod_int Try.underlying2 t2
  simp at e0 e1 e2
  subst e0 e1 e2
  unfold maxLen at r1
  exact ⟨z0, z1, z2, rfl, rfl, rfl, rng_i64 r0, by omega, rng_i64 r2⟩

theorem trod_pot {H : Type} {enc : TypeId × Value → H} {W : World} {base : Nat} {sp : Nat → Bool} {held : Bool} {fuel : Nat} {u v q : Value} {x : DataW H × List MemPlace}
    (h : DataW.trod enc Try.prog W base sp held fuel 25 [u, v, q] = some x) : ∃ a b c, u = .int .i64 a ∧ v = .int .i64 b ∧ q = .int .i64 c ∧ inB a b c := by
  obtain ⟨y0, y1, y2, n, _, _, t0, t1, t2⟩ := Deep.trod_struct3 Try.underlying25 h
  have k0 : Try.prog.cellsOf 2 = 1 := by kernel_rfl
  simp [k0] at t0 t1 t2
  obtain ⟨z0, e0, _, r0⟩ := DataW.trod_int Try.underlying2 t0
  obtain ⟨z1, e1, _, r1⟩ := DataW.trod_int Try.underlying2 t1
  obtain ⟨z2, e2, _, r2⟩ := DataW.trod_int Try.underlying2 t2
  simp at e0 e1 e2
  subst e0 e1 e2
  exact ⟨z0, z1, z2, rfl, rfl, rfl, rng_i64 r0, rng_i64 r1, rng_i64 r2⟩

set_option maxRecDepth 100000 in
theorem open_act {H : Type} {enc : TypeId × Value → H} {W : World} {base : Nat} {v : Value} {d : DataW H} {ps : List MemPlace}
    (hok : Value.okWide Try.prog W .any base 23 v) (h : DataW.Trod enc Try.prog W 0 (fun _ => true) true 23 v d ps) :
    ∃ k s n, v = .agg #[.int .i64 k, .string s, .int .i64 n] ∧ inT k s n := by
  obtain ⟨cs, rfl, hsz⟩ := okWide_struct Try.underlying23 hok
  have hsz3 : cs.size = 3 := hsz.trans (by kernel_rfl)
  obtain ⟨l⟩ := cs
  match l, hsz3 with
  | [a, b, c], _ =>
    obtain ⟨fuel, hf⟩ := h
    simp only [Value.cells] at hf
    obtain ⟨k, s, n, rfl, rfl, rfl, hT⟩ := trod_act hf
    exact ⟨k, s, n, rfl, hT⟩

set_option maxRecDepth 100000 in
theorem open_acc {H : Type} {enc : TypeId × Value → H} {W : World} {base : Nat} {v : Value} {d : DataW H} {ps : List MemPlace}
    (hok : Value.okWide Try.prog W .any base 27 v) (h : DataW.Trod enc Try.prog W 0 (fun _ => true) true 27 v d ps) :
    ∃ s a b c x y z, v = .agg #[.string s, .int .i64 a, .int .i64 b, .int .i64 c, .int .i64 x, .int .i64 y, .int .i64 z] ∧ inX s a b c x y z := by
  obtain ⟨cs, rfl, hsz⟩ := okWide_struct Try.underlying27 hok
  have hsz7 : cs.size = 7 := hsz.trans (by kernel_rfl)
  obtain ⟨l⟩ := cs
  match l, hsz7 with
  | [v0, v1, v2, v3, v4, v5, v6], _ =>
    obtain ⟨fuel, hf⟩ := h
    simp only [Value.cells] at hf
    obtain ⟨y0, y1, y2, n, _, _, t0, t1, t2⟩ := Deep.trod_struct3 Try.underlying27 hf
    have k1 : Try.prog.cellsOf 9 = 1 := by kernel_rfl
    have k3 : Try.prog.cellsOf 25 = 3 := by kernel_rfl
    simp [k1, k3] at t0 t1 t2
    obtain ⟨s, e0, _, r0⟩ := DataW.trod_string Try.underlying9 t0
    simp at e0
    subst e0
    obtain ⟨a, b, c, rfl, rfl, rfl, h1⟩ := trod_pot t1
    obtain ⟨x, y, z, rfl, rfl, rfl, h2⟩ := trod_pot t2
    unfold maxLen at r0
    exact ⟨s, a, b, c, x, y, z, rfl, by omega, h1, h2⟩

set_option maxRecDepth 100000 in
theorem open_acts {H : Type} {enc : TypeId × Value → H} {W : World} {base : Nat} {v : Value} {d : DataW H} {ps : List MemPlace}
    (hok : Value.okWide Try.prog W .any base 43 v) (h : DataW.Trod enc Try.prog W 0 (fun _ => true) true 43 v d ps) :
    ∃ ad cap, ∃ T : List ActT, v = .slice ad T.length cap ∧ ActsAt W ad T ∧ T.length ≤ 9223372036854775807 ∧ ∀ t ∈ T, inT t.k t.s t.n := by
  obtain ⟨a0, len0, cap0, rfl⟩ := okWide_slice Try.underlying43 hok
  obtain ⟨fuel, hf⟩ := h
  rcases Deep.open_slice Try.underlying43 hf with ⟨hcs, _⟩ | ⟨a, len, cap, m, n, D, Pl, hcs, _, hl, hm, hmm, _, hx⟩
  · simp [Value.cells] at hcs
    obtain ⟨rfl, rfl, rfl⟩ := hcs
    exact ⟨none, 0, [], rfl, fun j hj => absurd hj (by simp), by simp, by simp⟩
  · simp [Value.cells] at hcs
    obtain ⟨rfl, rfl, rfl⟩ := hcs
    have hlm : len0 ≤ m := by rw [hmm]; split <;> omega
    have ce : Try.prog.cellsOf 23 = 3 := by kernel_rfl
    have each : ∀ i, i < len0 → ∃ t : ActT, W.cell? (a.add (i * 3)) = some (.int .i64 t.k) ∧ W.cell? (a.add (i * 3 + 1)) = some (.string t.s) ∧ W.cell? (a.add (i * 3 + 2)) = some (.int .i64 t.n) ∧ inT t.k t.s t.n := by
      intro i hi
      obtain ⟨cs, h1, h2⟩ := hx i (by omega)
      rw [ce] at h1
      obtain ⟨_, hlen, hcell⟩ := World.cells?_some h1
      match cs, hlen with
      | [v0, v1, v2], _ =>
        obtain ⟨z0, z1, z2, rfl, rfl, rfl, hT⟩ := trod_act h2
        have c0 := hcell 0 (by omega)
        have c1 := hcell 1 (by omega)
        have c2 := hcell 2 (by omega)
        rw [Deep.add_add] at c0 c1 c2
        exact ⟨⟨z0, z1, z2⟩, by simpa using c0, by simpa using c1, by simpa using c2, hT⟩
    have hin : Inhabited ActT := ⟨⟨0, ⟨#[]⟩, 0⟩⟩
    obtain ⟨f, hfq⟩ := Deep.choose_lt each
    unfold maxLen at hm
    refine ⟨some a, cap0, (List.range len0).map f, by simp, ?_, by simp; omega, ?_⟩
    · intro j hj
      have hj' : j < len0 := by simpa using hj
      obtain ⟨c0, c1, c2, _⟩ := hfq j hj'
      obtain ⟨b, off, spot⟩ := a
      have hspot : spot = none := by
        have := World.cell?_spot (hfq 0 (by omega)).1
        simpa [Addr.add] using this
      subst hspot
      rw [Addr.add_lit] at c0 c1 c2
      refine ⟨b, off, rfl, World.block_lt_of_cell? W _ c0, by simpa using c0, ?_, ?_⟩
      · rw [← Nat.add_assoc] at c1; simpa using c1
      · rw [← Nat.add_assoc] at c2; simpa using c2
    · intro t ht
      obtain ⟨j, hj, rfl⟩ := List.mem_map.1 ht
      exact (hfq j (by simpa using hj)).2.2.2
end Go.Proofs.Ytbiagpjndbknaaa
