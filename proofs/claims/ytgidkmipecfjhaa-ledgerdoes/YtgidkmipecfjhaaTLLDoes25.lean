/- What the proof is made of, part 25. -/
import Derived.Test.YtgidkmipecfjhaaTLLDoes24
import Derived.BigQuiet
namespace Go.Proofs.Ytgidkmipecfjhaa
open Go.RowKit
open Led (Acc Mk)
theorem mks_lit (w : World) (x : Mk) (t : TypeId) : ∀ j u, ([x].flatMap mkC)[j]? = some u → (w.alloc (.cells #[.string x.key, .int .i64 x.k, .string x.t, .int .i64 x.n, .int .i64 x.st] t)).cell? ((⟨w.heap.size, 0, none⟩ : Addr).add j) = some u := by
  intro j u hu
  have hj : j < 5 := by
    have := (List.getElem?_eq_some_iff.1 hu).1
    simpa [mkC] using this
  rw [Addr.add_lit]
  match j, hj with
  | 0, _ => simp [mkC] at hu; subst hu; simp
  | 1, _ => simp [mkC] at hu; subst hu; simp
  | 2, _ => simp [mkC] at hu; subst hu; simp
  | 3, _ => simp [mkC] at hu; subst hu; simp
  | 4, _ => simp [mkC] at hu; subst hu; simp
structure FvAt (w : World) (g : Nat) (m : Mk) : Prop where
  c0 : w.cell? ⟨g, 0, none⟩ = some (.string m.key)
  c1 : w.cell? ⟨g, 1, none⟩ = some (.int .i64 m.k)
  c2 : w.cell? ⟨g, 2, none⟩ = some (.string m.t)
  c3 : w.cell? ⟨g, 3, none⟩ = some (.int .i64 m.n)
  c4 : w.cell? ⟨g, 4, none⟩ = some (.int .i64 m.st)
  lt : g < w.heap.size
theorem FvAt.gr {w w' : World} {g : Nat} {m : Mk} (h : FvAt w g m) (k : Gr w w') : FvAt w' g m := ⟨k.keep h.c0, k.keep h.c1, k.keep h.c2, k.keep h.c3, k.keep h.c4, Nat.lt_of_lt_of_le h.lt k.size⟩
theorem FvAt.grown {w w' : World} {g : Nat} {m : Mk} {r : Option Nat} (h : FvAt w g m) (k : w.grownBy w' r) (hr : some g ≠ r) : FvAt w' g m := ⟨k.cell h.c0 hr, k.cell h.c1 hr, k.cell h.c2 hr, k.cell h.c3 hr, k.cell h.c4 hr, Nat.lt_of_lt_of_le h.lt k.size⟩
theorem FvAt.far {w : World} {g : Nat} {m : Mk} (h : FvAt w g m) (p : Addr) (u : Value) (hp : p.block ≠ g) : FvAt (w.setCell p u) g m := by
  obtain ⟨h0, h1, h2, h3, h4, hl⟩ := h
  refine ⟨?_, ?_, ?_, ?_, ?_, by simpa using hl⟩ <;> rw [World.cell?_setCell_far _ _ _ _ (by simpa using hp)] <;> assumption
structure SvAt (w : World) (g : Nat) (x : Acc) : Prop where
  c0 : w.cell? ⟨g, 0, none⟩ = some (.string x.s)
  c1 : w.cell? ⟨g, 1, none⟩ = some (.int .i64 x.a)
  c2 : w.cell? ⟨g, 2, none⟩ = some (.int .i64 x.b)
  c3 : w.cell? ⟨g, 3, none⟩ = some (.int .i64 x.c)
  c4 : w.cell? ⟨g, 4, none⟩ = some (.int .i64 x.x)
  c5 : w.cell? ⟨g, 5, none⟩ = some (.int .i64 x.y)
  c6 : w.cell? ⟨g, 6, none⟩ = some (.int .i64 x.z)
  lt : g < w.heap.size
theorem SvAt.gr {w w' : World} {g : Nat} {m : Acc} (h : SvAt w g m) (k : Gr w w') : SvAt w' g m := ⟨k.keep h.c0, k.keep h.c1, k.keep h.c2, k.keep h.c3, k.keep h.c4, k.keep h.c5, k.keep h.c6, Nat.lt_of_lt_of_le h.lt k.size⟩
theorem SvAt.grown {w w' : World} {g : Nat} {m : Acc} {r : Option Nat} (h : SvAt w g m) (k : w.grownBy w' r) (hr : some g ≠ r) : SvAt w' g m := ⟨k.cell h.c0 hr, k.cell h.c1 hr, k.cell h.c2 hr, k.cell h.c3 hr, k.cell h.c4 hr, k.cell h.c5 hr, k.cell h.c6 hr, Nat.lt_of_lt_of_le h.lt k.size⟩
theorem SvAt.far {w : World} {g : Nat} {m : Acc} (h : SvAt w g m) (p : Addr) (u : Value) (hp : p.block ≠ g) : SvAt (w.setCell p u) g m := by
  obtain ⟨h0, h1, h2, h3, h4, h5, h6, hl⟩ := h
  refine ⟨?_, ?_, ?_, ?_, ?_, ?_, ?_, by simpa using hl⟩ <;> rw [World.cell?_setCell_far _ _ _ _ (by simpa using hp)] <;> assumption
def tkA (X : List Acc) (k : Nat) : List Acc := X.take k
theorem SvAt.new (w : World) (x : Acc) (t : TypeId) (g : Nat) (hg : g = w.heap.size) : SvAt (w.alloc (.cells #[.string x.s, .int .i64 x.a, .int .i64 x.b, .int .i64 x.c, .int .i64 x.x, .int .i64 x.y, .int .i64 x.z] t)) g x := by
  subst hg
  exact ⟨by simp, by simp, by simp, by simp, by simp, by simp, by simp, by simp⟩
theorem FvAt.new (w : World) (m : Mk) (t : TypeId) (g : Nat) (hg : g = w.heap.size) : FvAt (w.alloc (.cells #[.string m.key, .int .i64 m.k, .string m.t, .int .i64 m.n, .int .i64 m.st] t)) g m := by
  subst hg
  exact ⟨by simp, by simp, by simp, by simp, by simp, by simp⟩
structure PuI (w wr : World) (l0 l1 : Value) (x : Acc) (m : Mk) (v u : Value) (R : List Acc) (Q : List Mk) : Prop where
  lb : TwoAt wr w.heap.size l0 l1
  xb : SvAt wr (w.heap.size + 1) x
  mb : FvAt wr (w.heap.size + 1 + 1) m
  rs : TwoAt wr (w.heap.size + 1 + 1 + 1) (.slice none 0 0) (.slice none 0 0)
  ob : TwoAt wr (w.heap.size + 1 + 1 + 1 + 1) v u
  o1 : wr.ownsRow (w.heap.size + 5) 31 7 v R.length (R.flatMap accC)
  o2 : wr.ownsRow (w.heap.size + 5) 64 5 u Q.length (Q.flatMap mkC)
  g : Gr w wr
theorem PuI.gr {w wr w' : World} {l0 l1 v u : Value} {x : Acc} {m : Mk} {R : List Acc} {Q : List Mk} (h : PuI w wr l0 l1 x m v u R Q) (k : Gr wr w') : PuI w w' l0 l1 x m v u R Q :=
  ⟨h.lb.gr k, h.xb.gr k, h.mb.gr k, h.rs.gr k, h.ob.gr k, own_gr2 h.o1 k, own_gr2 h.o2 k, h.g.trans k⟩
theorem PuI.app1 {w wr w' : World} {l0 l1 v u v' : Value} {x y : Acc} {m : Mk} {R : List Acc} {Q : List Mk} (h : PuI w wr l0 l1 x m v u R Q) (ho : w'.ownsRow (w.heap.size + 5) 31 7 v' (R.length + 1) (R.flatMap accC ++ [y].flatMap accC)) (hg : wr.grownBy w' v.ownBlock) : PuI w (w'.setCell ⟨w.heap.size + 1 + 1 + 1 + 1, 0, none⟩ v') l0 l1 x m v' u (R ++ [y]) Q := by
  have ne : ∀ i, i < w.heap.size + 5 → some i ≠ v.ownBlock := fun i hi e => by have := (h.o1.lt _ e.symm).1; omega
  have ne2 : v'.ownBlock ≠ some (w.heap.size + 1 + 1 + 1 + 1) := fun e => by have := (ho.lt _ e).1; omega
  have ne3 : u.ownBlock ≠ some (w.heap.size + 1 + 1 + 1 + 1) := fun e => by have := (h.o2.lt _ e).1; omega
  refine ⟨(h.lb.grown hg (ne _ (by omega))).far _ _ (by first | (simp; done) | (simp; omega)), (h.xb.grown hg (ne _ (by omega))).far _ _ (by first | (simp; done) | (simp; omega)), (h.mb.grown hg (ne _ (by omega))).far _ _ (by first | (simp; done) | (simp; omega)), (h.rs.grown hg (ne _ (by omega))).far _ _ (by first | (simp; done) | (simp; omega)), (h.ob.grown hg (ne _ (by omega))).set0 _, ?_, ?_, (h.g.grown hg (fun g e => by have := (h.o1.lt g e).1; omega)).set _ (by first | (simp; done) | (simp; omega)) _⟩
  · rw [List.length_append, List.length_singleton, List.flatMap_append]
    exact own_far ho _ _ ne2
  · refine own_far (h.o2.kept hg ?_) _ _ ne3
    cases hv : v.ownBlock with
    | none => exact own_or _
    | some g => exact Or.inr (own_apart h.o1 h.o2 (by decide) hv)
theorem PuI.app2 {w wr w' : World} {l0 l1 v u u' : Value} {x : Acc} {m y : Mk} {R : List Acc} {Q : List Mk} (h : PuI w wr l0 l1 x m v u R Q) (ho : w'.ownsRow (w.heap.size + 5) 64 5 u' (Q.length + 1) (Q.flatMap mkC ++ [y].flatMap mkC)) (hg : wr.grownBy w' u.ownBlock) : PuI w (w'.setCell ⟨w.heap.size + 1 + 1 + 1 + 1, 1, none⟩ u') l0 l1 x m v u' R (Q ++ [y]) := by
  have ne : ∀ i, i < w.heap.size + 5 → some i ≠ u.ownBlock := fun i hi e => by have := (h.o2.lt _ e.symm).1; omega
  have ne2 : u'.ownBlock ≠ some (w.heap.size + 1 + 1 + 1 + 1) := fun e => by have := (ho.lt _ e).1; omega
  have ne3 : v.ownBlock ≠ some (w.heap.size + 1 + 1 + 1 + 1) := fun e => by have := (h.o1.lt _ e).1; omega
  refine ⟨(h.lb.grown hg (ne _ (by omega))).far _ _ (by first | (simp; done) | (simp; omega)), (h.xb.grown hg (ne _ (by omega))).far _ _ (by first | (simp; done) | (simp; omega)), (h.mb.grown hg (ne _ (by omega))).far _ _ (by first | (simp; done) | (simp; omega)), (h.rs.grown hg (ne _ (by omega))).far _ _ (by first | (simp; done) | (simp; omega)), (h.ob.grown hg (ne _ (by omega))).set1 _, ?_, ?_, (h.g.grown hg (fun g e => by have := (h.o2.lt g e).1; omega)).set _ (by first | (simp; done) | (simp; omega)) _⟩
  · refine own_far (h.o1.kept hg ?_) _ _ ne3
    cases hv : u.ownBlock with
    | none => exact own_or _
    | some g => exact Or.inr (own_apart h.o2 h.o1 (by decide) hv)
  · rw [List.length_append, List.length_singleton, List.flatMap_append]
    exact own_far ho _ _ ne2
def PutR (w : World) (X : List Acc) (Y : List Mk) (e : Ending) (w' : World) : Prop := ∃ b1 d1 b2 d2, e = .returned (.agg #[.slice b1 X.length d1, .slice b2 Y.length d2]) ∧ AccsAt w' b1 X ∧ MksAt w' b2 Y ∧ Gr w w' ∧ (∀ a, b1 = some a → w.heap.size ≤ a.block) ∧ (∀ a, b2 = some a → w.heap.size ≤ a.block)
def ptM (M : List Mk) (m : Mk) (h : Bool) : List Mk := M.take (Led.pos (Led.ky M) m.key) ++ m :: (if h = true then M.drop (Led.pos (Led.ky M) m.key + 1) else M.drop (Led.pos (Led.ky M) m.key))
def ptR (M : List Mk) (m : Mk) (h : Bool) (k : Nat) : List Mk := if k ≤ Led.pos (Led.ky M) m.key then M.take k else M.take (Led.pos (Led.ky M) m.key) ++ m :: (if h = true then (M.drop (Led.pos (Led.ky M) m.key + 1)).take (k - Led.pos (Led.ky M) m.key - 1) else (M.drop (Led.pos (Led.ky M) m.key)).take (k - Led.pos (Led.ky M) m.key))
theorem pt_low (M : List Mk) (m : Mk) (h : Bool) (k : Nat) (hk : k < Led.pos (Led.ky M) m.key) (hl : k < M.length) : ptR M m h (k + 1) = ptR M m h k ++ [M[k]] := by
  unfold ptR
  rw [if_pos (by omega), if_pos (by omega), List.take_succ_eq_append_getElem hl]
theorem pt_at (M : List Mk) (m : Mk) (k : Nat) (hk : k = Led.pos (Led.ky M) m.key) (hl : k < M.length) : ptR M m false (k + 1) = ptR M m false k ++ [m] ++ [M[k]] ∧ ptR M m true (k + 1) = ptR M m true k ++ [m] := by
  subst hk
  have e : (M.drop (Led.pos (Led.ky M) m.key)).take 1 = [M[Led.pos (Led.ky M) m.key]] := by rw [List.drop_eq_getElem_cons hl]; rfl
  constructor
  · unfold ptR
    simp only [Bool.false_eq_true, ↓reduceIte]
    rw [if_neg (by omega), if_pos (Nat.le_refl _), show Led.pos (Led.ky M) m.key + 1 - Led.pos (Led.ky M) m.key = 1 by omega, e, List.append_assoc]; rfl
  · unfold ptR
    simp only [↓reduceIte]
    rw [if_neg (by omega), if_pos (Nat.le_refl _), show Led.pos (Led.ky M) m.key + 1 - Led.pos (Led.ky M) m.key - 1 = 0 by omega]; rfl
theorem pt_high (M : List Mk) (m : Mk) (h : Bool) (k : Nat) (hk : Led.pos (Led.ky M) m.key < k) (hl : k < M.length) : ptR M m h (k + 1) = ptR M m h k ++ [M[k]] := by
  unfold ptR
  cases h with
  | true =>
    simp only [↓reduceIte]
    have e : Led.pos (Led.ky M) m.key + 1 + (k - Led.pos (Led.ky M) m.key - 1) = k := by omega
    rw [if_neg (by omega), if_neg (by omega), show k + 1 - Led.pos (Led.ky M) m.key - 1 = (k - Led.pos (Led.ky M) m.key - 1) + 1 by omega, List.take_succ_eq_append_getElem (by rw [List.length_drop]; omega), List.getElem_drop]
    simp only [e]
    simp
  | false =>
    simp only [Bool.false_eq_true, ↓reduceIte]
    have e : Led.pos (Led.ky M) m.key + (k - Led.pos (Led.ky M) m.key) = k := by omega
    rw [if_neg (by omega), if_neg (by omega), show k + 1 - Led.pos (Led.ky M) m.key = (k - Led.pos (Led.ky M) m.key) + 1 by omega, List.take_succ_eq_append_getElem (by rw [List.length_drop]; omega), List.getElem_drop]
    simp only [e]
    simp
theorem pt_len (M : List Mk) (m : Mk) (h : Bool) (k : Nat) (hk : k ≤ M.length) : (ptR M m h k).length ≤ M.length + 1 := by
  have := Led.pos_le (Led.ky M) m.key
  rw [Led.ky_len] at this
  unfold ptR
  split
  · rw [List.length_take]; omega
  · cases h <;> simp <;> omega
theorem pt_end (M : List Mk) (m : Mk) (h : Bool) (hh : h = true → Led.pos (Led.ky M) m.key < M.length) : ptM M m h = if M.length ≤ Led.pos (Led.ky M) m.key then ptR M m h M.length ++ [m] else ptR M m h M.length := by
  have h2 := Led.pos_le (Led.ky M) m.key
  rw [Led.ky_len] at h2
  unfold ptM ptR
  by_cases h3 : M.length ≤ Led.pos (Led.ky M) m.key
  · have e : Led.pos (Led.ky M) m.key = M.length := by omega
    cases h with
    | true => have := hh rfl; omega
    | false =>
      simp only [Bool.false_eq_true, ↓reduceIte]
      rw [if_pos h3, if_pos h3, e, List.take_length, List.drop_length]
  · cases h with
    | true =>
      simp only [↓reduceIte]
      rw [if_neg h3, if_neg h3, List.take_of_length_le (l := M.drop _) (by rw [List.length_drop]; omega)]
    | false =>
      simp only [Bool.false_eq_true, ↓reduceIte]
      rw [if_neg h3, if_neg h3, List.take_of_length_le (l := M.drop _) (by rw [List.length_drop]; omega)]
theorem ptM_yes {M : List Mk} {m : Mk} (hq : Led.pos (Led.ky M) m.key < M.length) : ptM M m true = M.set (Led.pos (Led.ky M) m.key) m := by
  unfold ptM
  simp only [↓reduceIte]
  rw [List.set_eq_take_append_cons_drop, if_pos hq]
theorem ptM_no (M : List Mk) (m : Mk) : ptM M m false = insK M m := rfl
theorem keep7 {a b : World} {q0 q1 q2 q3 q4 q5 q6 : Addr} {v0 v1 v2 v3 v4 v5 v6 : Value} (h : a.cell? q0 = some v0 ∧ a.cell? q1 = some v1 ∧ a.cell? q2 = some v2 ∧ a.cell? q3 = some v3 ∧ a.cell? q4 = some v4 ∧ a.cell? q5 = some v5 ∧ a.cell? q6 = some v6) (g : Gr a b) : b.cell? q0 = some v0 ∧ b.cell? q1 = some v1 ∧ b.cell? q2 = some v2 ∧ b.cell? q3 = some v3 ∧ b.cell? q4 = some v4 ∧ b.cell? q5 = some v5 ∧ b.cell? q6 = some v6 := ⟨g.keep h.1, g.keep h.2.1, g.keep h.2.2.1, g.keep h.2.2.2.1, g.keep h.2.2.2.2.1, g.keep h.2.2.2.2.2.1, g.keep h.2.2.2.2.2.2⟩
theorem keep7g {a b : World} {q0 q1 q2 q3 q4 q5 q6 : Addr} {v0 v1 v2 v3 v4 v5 v6 : Value} (h : a.cell? q0 = some v0 ∧ a.cell? q1 = some v1 ∧ a.cell? q2 = some v2 ∧ a.cell? q3 = some v3 ∧ a.cell? q4 = some v4 ∧ a.cell? q5 = some v5 ∧ a.cell? q6 = some v6) {r : Option Nat} (g : a.grownBy b r) (n0 : some q0.block ≠ r) (n1 : some q1.block ≠ r) (n2 : some q2.block ≠ r) (n3 : some q3.block ≠ r) (n4 : some q4.block ≠ r) (n5 : some q5.block ≠ r) (n6 : some q6.block ≠ r) : b.cell? q0 = some v0 ∧ b.cell? q1 = some v1 ∧ b.cell? q2 = some v2 ∧ b.cell? q3 = some v3 ∧ b.cell? q4 = some v4 ∧ b.cell? q5 = some v5 ∧ b.cell? q6 = some v6 := ⟨g.cell h.1 n0, g.cell h.2.1 n1, g.cell h.2.2.1 n2, g.cell h.2.2.2.1 n3, g.cell h.2.2.2.2.1 n4, g.cell h.2.2.2.2.2.1 n5, g.cell h.2.2.2.2.2.2 n6⟩
theorem hold3p {a b : World} (g : Gr a b) {q0 q1 q2 : Addr} {v0 v1 v2 : Value} (h0 : a.cell? q0 = some v0) (h1 : a.cell? q1 = some v1) (h2 : a.cell? q2 = some v2) : Gr a b ∧ b.cell? q0 = some v0 ∧ b.cell? q1 = some v1 ∧ b.cell? q2 = some v2 := ⟨g, g.keep h0, g.keep h1, g.keep h2⟩
set_option maxHeartbeats 16000000 in
set_option maxRecDepth 100000 in
theorem refPut_any (A : List Acc) (M : List Mk) (x : Acc) (m : Mk) (p : Nat) (adA : Option Addr) (capA : Nat) (adM : Option Addr) (capM : Nat) (w : World) (hA : AccsAt w adA A) (hM : MksAt w adM M) (ua : Led.upB (Led.nm A) = true) (um : Led.upB (Led.ky M) = true) (la : A.length ≤ 12) (lm : M.length ≤ 500) (hp : p < A.length) (hpx : A[p].s = x.s) :
    Calls Try.prog 59 #[.agg #[.slice adA A.length capA, .slice adM M.length capM], .agg #[.string x.s, .int .i64 x.a, .int .i64 x.b, .int .i64 x.c, .int .i64 x.x, .int .i64 x.y, .int .i64 x.z], .agg #[.string m.key, .int .i64 m.k, .string m.t, .int .i64 m.n, .int .i64 m.st]] w fun e w' => PutR w (A.set p x) (ptM M m (Led.hasB (Led.ky M) m.key)) e w' := by
  obtain ⟨i0, hi, hz0, hz1, hz2⟩ := info_parts infoAcc
  obtain ⟨j0, hj, hy0, hy1, hy2⟩ := info_parts infoMk
  have HAA : Hid (AccsAt w adA A) := hA
  have HMM : Hid (MksAt w adM M) := hM
  have hXl : (A.set p x).length = A.length := List.length_set
  have H1Y : Hid (∀ k (hk : k < A.length), k = p → (A[k].s.toList == x.s.toList) = true ∧ tkA (A.set p x) (k + 1) = tkA (A.set p x) k ++ [x]) := fun k hk e => by
    subst e
    refine ⟨by rw [eqB, decide_eq_true hpx], ?_⟩
    unfold tkA
    rw [List.take_succ_eq_append_getElem (by rw [hXl]; exact hk), List.getElem_set_self]
  have H1N : Hid (∀ k (hk : k < A.length), k ≠ p → (A[k].s.toList == x.s.toList) = false ∧ tkA (A.set p x) (k + 1) = tkA (A.set p x) k ++ [A[k]]) := fun k hk e => by
    refine ⟨neB (fun e2 => e (Led.up_one ua (by rw [Led.nm_len]; exact hk) (by rw [Led.nm_len]; exact hp) (by rw [Led.nm_get A k hk, Led.nm_get A p hp, e2, hpx]))), ?_⟩
    unfold tkA
    rw [List.take_succ_eq_append_getElem (by rw [hXl]; exact hk), List.getElem_set_ne (fun e2 => e e2.symm)]
  have H1E : Hid (tkA (A.set p x) A.length = A.set p x) := by show _ = _; unfold tkA; rw [← hXl, List.take_length]
  have H1L : Hid (∀ k, (tkA (A.set p x) k).length ≤ 12) := fun k => by unfold tkA; rw [List.length_take]; omega
  have HI0 : Hid (PuI w (((((w.alloc (.cells #[.slice adA A.length capA, .slice adM M.length capM] 25)).alloc (.cells #[.string x.s, .int .i64 x.a, .int .i64 x.b, .int .i64 x.c, .int .i64 x.x, .int .i64 x.y, .int .i64 x.z] 31)).alloc (.cells #[.string m.key, .int .i64 m.k, .string m.t, .int .i64 m.n, .int .i64 m.st] 64)).alloc (.cells #[.slice none 0 0, .slice none 0 0] 25)).alloc (.cells #[.slice none 0 0, .slice none 0 0] 25)) (.slice adA A.length capA) (.slice adM M.length capM) x m (.slice none 0 0) (.slice none 0 0) [] []) :=
    ⟨((((TwoAt.new w _ _ _ _ rfl).gr (Gr.refl _).alloc).gr (Gr.refl _).alloc).gr (Gr.refl _).alloc).gr (Gr.refl _).alloc, (((SvAt.new _ _ _ _ (by simp)).gr (Gr.refl _).alloc).gr (Gr.refl _).alloc).gr (Gr.refl _).alloc, ((FvAt.new _ _ _ _ (by simp)).gr (Gr.refl _).alloc).gr (Gr.refl _).alloc, ((TwoAt.new _ _ _ _ _ (by simp)).gr (Gr.refl _).alloc), TwoAt.new _ _ _ _ _ (by simp), World.ownsRow_nil _ _ _ _, World.ownsRow_nil _ _ _ _, (Gr.refl _).alloc.alloc.alloc.alloc.alloc⟩
  have hqm : Led.hasB (Led.ky M) m.key = true → Led.pos (Led.ky M) m.key < M.length := fun h => by
    obtain ⟨h1, _⟩ := Led.pos_mem um ((Led.has_iff _ _).1 h)
    rw [Led.ky_len] at h1
    exact h1
  have hky : ∀ k (hk : k < M.length), (Led.ky M)[k]'(by rw [Led.ky_len]; exact hk) = M[k].key := fun k hk => Led.ky_get M k hk
  have H2L : Hid (∀ k (hk : k < M.length), k < Led.pos (Led.ky M) m.key → Op.bytesLess M[k].key.toList m.key.toList = true ∧ (M[k].key.toList == m.key.toList) = false ∧ ptR M m (Led.hasB (Led.ky M) m.key) (k + 1) = ptR M m (Led.hasB (Led.ky M) m.key) k ++ [M[k]]) := fun k hk hq => by
    have h1 := (Led.pos_iff (Led.ky M) m.key um k (by rw [Led.ky_len]; exact hk)).2 hq
    rw [hky k hk] at h1
    exact ⟨h1, neB (Led.lt_ne h1), pt_low M m _ k hq hk⟩
  have H2A : Hid (∀ k (hk : k < M.length), k = Led.pos (Led.ky M) m.key → Op.bytesLess M[k].key.toList m.key.toList = false ∧ (((M[k].key.toList == m.key.toList) = true ∧ ptR M m (Led.hasB (Led.ky M) m.key) (k + 1) = ptR M m (Led.hasB (Led.ky M) m.key) k ++ [m]) ∨ ((M[k].key.toList == m.key.toList) = false ∧ ptR M m (Led.hasB (Led.ky M) m.key) (k + 1) = ptR M m (Led.hasB (Led.ky M) m.key) k ++ [m] ++ [M[k]]))) := fun k hk hq => by
    cases hh : Led.hasB (Led.ky M) m.key with
    | true =>
      obtain ⟨h1, h2⟩ := Led.pos_mem um ((Led.has_iff _ _).1 hh)
      have e : M[k].key = m.key := by rw [← hky k hk]; subst hq; exact h2
      exact ⟨by rw [e]; exact Led.bl_irrefl _, Or.inl ⟨by rw [eqB, decide_eq_true e], (pt_at M m k hq hk).2⟩⟩
    | false =>
      have hns : m.key ∉ Led.ky M := fun hx => by rw [(Led.has_iff _ _).2 hx] at hh; cases hh
      have h1 := Led.pos_gt um hns k (by rw [Led.ky_len]; exact hk) (by omega)
      rw [hky k hk] at h1
      exact ⟨Led.lt_asymm h1, Or.inr ⟨neB (Ne.symm (Led.lt_ne h1)), (pt_at M m k hq hk).1⟩⟩
  have H2H : Hid (∀ k (hk : k < M.length), Led.pos (Led.ky M) m.key < k → (M[k].key.toList == m.key.toList) = false ∧ ptR M m (Led.hasB (Led.ky M) m.key) (k + 1) = ptR M m (Led.hasB (Led.ky M) m.key) k ++ [M[k]]) := fun k hk hq => by
    refine ⟨?_, pt_high M m _ k hq hk⟩
    have hne : M[k].key ≠ m.key := fun e => by
      have := Led.pos_eq (s := m.key) um k (by rw [Led.ky_len]; exact hk) ((hky k hk).trans e)
      omega
    exact neB hne
  have H2E : Hid (ptM M m (Led.hasB (Led.ky M) m.key) = if M.length ≤ Led.pos (Led.ky M) m.key then ptR M m (Led.hasB (Led.ky M) m.key) M.length ++ [m] else ptR M m (Led.hasB (Led.ky M) m.key) M.length) := pt_end M m _ hqm
  have H2N : Hid (∀ k, k ≤ M.length → (ptR M m (Led.hasB (Led.ky M) m.key) k).length ≤ M.length + 1) := fun k hk => pt_len M m _ k hk
  have H20 : Hid (ptR M m (Led.hasB (Led.ky M) m.key) 0 = []) := by show _ = _; unfold ptR; rw [if_pos (by omega)]; rfl
  clear hA hM hpx hXl hqm hky
  generalize ptM M m (Led.hasB (Led.ky M) m.key) = PM at *
  generalize hQQ : ptR M m (Led.hasB (Led.ky M) m.key) = QQ at *
  clear hQQ
  generalize Led.pos (Led.ky M) m.key = q at *
  have HT0 : Hid (tkA (A.set p x) 0 = []) := by show _ = _; unfold tkA; rw [List.take_zero]
  generalize hRR : tkA (A.set p x) = RR at *
  generalize hXX : A.set p x = XX at *
  clear hXX hRR
  go_enter Try.func59, Try.ntmps59
  go_wp2
  go_loopw [8] (fun ix wr => ∃ (k : Nat) (v : Value), k ≤ A.length ∧ ix = .int .i64 (k : Int) ∧ PuI w wr (.slice adA A.length capA) (.slice adM M.length capM) x m v (.slice none 0 0) (RR k) []) (fun ix _ => A.length - (intOf ix).toNat)
  case atStart => exact ⟨0, .slice none 0 0, by omega, rfl, by rw [HT0.out]; exact HI0.out⟩
  case round =>
    obtain ⟨k, v, hk, rfl, hI⟩ := hrel
    have HIr : Hid (PuI w wr (.slice adA A.length capA) (.slice adM M.length capM) x m v (.slice none 0 0) (RR k) []) := hI
    clear hI HI0
    have hRl := H1L.out k
    by_cases hlt : k < A.length
    · obtain ⟨bb, oo, rfl, hbb0, _⟩ := AccsAt.at HAA.out k hlt
      obtain ⟨av, cv, hv⟩ := own_slice HIr.out.o1
      subst hv
      obtain ⟨l0, l1, _, _, ll⟩ := HIr.out.lb
      obtain ⟨_, _, ee, hba, e0, _⟩ := AccsAt.at (RowAt.gr HAA.out HIr.out.g) k hlt
      cases ee
      have x0 := HIr.out.xb.c0
      have xl := HIr.out.xb.lt
      by_cases hp2 : k = p
      · obtain ⟨heq, hst⟩ := H1Y.out k hlt hp2
        have HST : Hid (RR (k + 1) = RR k ++ [x]) := hst
        clear hst hp2
        go_upto_region 5 with fail
        refine wp_region_held_drew (S := (fun w' => Gr wr w' ∧ w'.cell? ⟨w.heap.size, 0, none⟩ = some (.slice (some ⟨bb, oo, none⟩) A.length capA) ∧ w'.cell? ⟨bb, oo + k * 7, none⟩ = some (.string A[k].s) ∧ w'.cell? ⟨w.heap.size + 1, 0, none⟩ = some (.string x.s))) (by kernel_rfl) (by exact hold3p (by (with_reducible repeat' (first | exact Gr.refl _ | refine Gr.set ?_ _ ?_ _ | refine Gr.alloc ?_ | refine Gr.drew ?_ | refine Gr.trans ?_ (by assumption))) <;> (first | (simp; done) | (simp; omega) | omega)) l0 e0 x0) (fun hHeld => ?_)
        refine ty 0 19 hHeld ?_
        refine ty 1 20 hHeld ?_
        refine ty 2 21 hHeld ?_
        refine ty 3 22 hHeld ?_
        refine ty 4 23 hHeld ?_
        refine ty 5 24 hHeld ?_
        refine ty 6 25 hHeld ?_
        refine ty 7 26 hHeld ?_
        refine ty 8 27 hHeld ?_
        refine wpAnyH_done (by kernel_rfl) ?_ _
        obtain ⟨wx, hwx⟩ : ∃ W, W = wr.drew := ⟨_, rfl⟩
        have HIx : Hid (PuI w wx (.slice (some ⟨bb, oo, none⟩) A.length capA) (.slice adM M.length capM) x m (.slice av (RR k).length cv) (.slice none 0 0) (RR k) []) := by show PuI _ _ _ _ _ _ _ _ _ _; rw [hwx]; exact HIr.out.gr (Gr.refl _).drew
        rw [← hwx]
        clear hwx l0 l1 ll e0 x0 xl
        obtain ⟨l0, l1, _, _, ll⟩ := HIx.out.lb
        obtain ⟨o0, o1, of0, of1, ol⟩ := HIx.out.ob
        obtain ⟨b0, b1, b2, b3, b4, b5, b6, bl⟩ := HIx.out.xb
        have HN4 : Hid (∀ j u, ([x].flatMap accC)[j]? = some u → (wx.alloc (.cells #[.string x.s, .int .i64 x.a, .int .i64 x.b, .int .i64 x.c, .int .i64 x.x, .int .i64 x.y, .int .i64 x.z] 31)).cell? ((⟨wx.heap.size, 0, none⟩ : Addr).add j) = some u) := accs_lit wx x 31
        have HI4 : Hid (PuI w (wx.alloc (.cells #[.string x.s, .int .i64 x.a, .int .i64 x.b, .int .i64 x.c, .int .i64 x.x, .int .i64 x.y, .int .i64 x.z] 31)) (.slice (some ⟨bb, oo, none⟩) A.length capA) (.slice adM M.length capM) x m (.slice av (RR k).length cv) (.slice none 0 0) (RR k) []) := HIx.out.gr (Gr.refl _).alloc
        have hwz : w.heap.size + 5 ≤ (wx.alloc (.cells #[.string x.s, .int .i64 x.a, .int .i64 x.b, .int .i64 x.c, .int .i64 x.x, .int .i64 x.y, .int .i64 x.z] 31)).heap.size := by have := HI4.out.ob.lt; omega
        go_wp2_with (first
          | (at_builtin; refine wpList_append_own _ rfl _ _ 22 rfl (w.heap.size + 5) 31 i0 (.agg #[.string ⟨#[]⟩, .int .i64 0, .int .i64 0, .int .i64 0, .int .i64 0, .int .i64 0, .int .i64 0]) 7 64 Try.underlying22 hi hz0 hz1 hz2 rfl (by decide) _ _ _ rfl HI4.out.o1 ⟨wx.heap.size, 0, none⟩ 1 1 ([x].flatMap accC) rfl rfl HN4.out (acc_one _) (by unfold maxLen; omega) (by omega) hwz ?_)
          | fail)
        intro v5 w5 ho5 hgr5 _
        obtain ⟨a5, c5, rfl⟩ := own_slice ho5
        have HI5 : Hid (PuI w (w5.setCell ⟨w.heap.size + 1 + 1 + 1 + 1, 0, none⟩ (.slice a5 (((RR k)).length + 1) c5)) (.slice (some ⟨bb, oo, none⟩) A.length capA) (.slice adM M.length capM) x m (.slice a5 (((RR k)).length + 1) c5) (.slice none 0 0) ((RR k) ++ [x]) []) := HI4.out.app1 ho5 hgr5
        have nbl : ∀ i, i ≤ w.heap.size + 1 + 1 + 1 + 1 → some i ≠ (Value.ownBlock (.slice av (RR k).length cv)) := fun i hi e => by have := (HI4.out.o1.lt _ e.symm).1; omega
        clear b0 b1 b2 b3 b4 b5 b6 bl l0 l1 o0 o1 of0 of1
        obtain ⟨o0, o1, of0, of1, ol⟩ := HI4.out.ob.grown hgr5 (nbl _ (by omega))
        obtain ⟨l0, l1, _, _, ll⟩ := HI4.out.lb.grown hgr5 (nbl _ (by omega))
        obtain ⟨r0, r1, rf0, rf1, rl⟩ := HI4.out.rs.grown hgr5 (nbl _ (by omega))
        clear ho5 hgr5 HI4 HN4 hwz nbl
        go_wp2
        go_roundw
        case rel => exact ⟨k + 1, _, by omega, by go_num, by rw [HST.out]; exact HI5.out⟩
        case measure => simp [intOf]; omega
      · obtain ⟨heq, hst⟩ := H1N.out k hlt hp2
        have HST : Hid (RR (k + 1) = RR k ++ [A[k]]) := hst
        clear hst hp2
        go_upto_region 5 with fail
        refine wp_region_held_drew (S := (fun w' => Gr wr w' ∧ w'.cell? ⟨w.heap.size, 0, none⟩ = some (.slice (some ⟨bb, oo, none⟩) A.length capA) ∧ w'.cell? ⟨bb, oo + k * 7, none⟩ = some (.string A[k].s) ∧ w'.cell? ⟨w.heap.size + 1, 0, none⟩ = some (.string x.s))) (by kernel_rfl) (by exact hold3p (by (with_reducible repeat' (first | exact Gr.refl _ | refine Gr.set ?_ _ ?_ _ | refine Gr.alloc ?_ | refine Gr.drew ?_ | refine Gr.trans ?_ (by assumption))) <;> (first | (simp; done) | (simp; omega) | omega)) l0 e0 x0) (fun hHeld => ?_)
        refine ty 0 19 hHeld ?_
        refine ty 1 20 hHeld ?_
        refine ty 2 21 hHeld ?_
        refine ty 3 22 hHeld ?_
        refine ty 4 23 hHeld ?_
        refine ty 5 24 hHeld ?_
        refine ty 6 25 hHeld ?_
        refine ty 7 26 hHeld ?_
        refine ty 8 27 hHeld ?_
        refine wpAnyH_done (by kernel_rfl) ?_ _
        obtain ⟨wx, hwx⟩ : ∃ W, W = wr.drew := ⟨_, rfl⟩
        have HIx : Hid (PuI w wx (.slice (some ⟨bb, oo, none⟩) A.length capA) (.slice adM M.length capM) x m (.slice av (RR k).length cv) (.slice none 0 0) (RR k) []) := by show PuI _ _ _ _ _ _ _ _ _ _; rw [hwx]; exact HIr.out.gr (Gr.refl _).drew
        rw [← hwx]
        clear hwx l0 l1 ll e0 x0 xl
        go_upto_region 7 with fail
        obtain ⟨l0, l1, _, _, ll⟩ := HIx.out.lb
        obtain ⟨o0, o1, of0, of1, ol⟩ := HIx.out.ob
        obtain ⟨_, _, ee, hba, e0, e1, e2, e3, e4, e5, e6⟩ := AccsAt.at (RowAt.gr HAA.out HIx.out.g) k hlt
        cases ee
        have hk9 : wx.drew.cell? ⟨w.heap.size + 1 + 1 + 1 + 1, 0, none⟩ = some (.slice av (RR k).length cv) ∧ wx.drew.cell? ⟨w.heap.size, 0, none⟩ = some (.slice (some ⟨bb, oo, none⟩) A.length capA) ∧ wx.drew.cell? ⟨bb, oo + k * 7, none⟩ = some (.string A[k].s) ∧ wx.drew.cell? ⟨bb, oo + k * 7 + 1, none⟩ = some (.int .i64 A[k].a) ∧ wx.drew.cell? ⟨bb, oo + k * 7 + 2, none⟩ = some (.int .i64 A[k].b) ∧ wx.drew.cell? ⟨bb, oo + k * 7 + 3, none⟩ = some (.int .i64 A[k].c) ∧ wx.drew.cell? ⟨bb, oo + k * 7 + 4, none⟩ = some (.int .i64 A[k].x) ∧ wx.drew.cell? ⟨bb, oo + k * 7 + 5, none⟩ = some (.int .i64 A[k].y) ∧ wx.drew.cell? ⟨bb, oo + k * 7 + 6, none⟩ = some (.int .i64 A[k].z) := ⟨o0, l0, e0, e1, e2, e3, e4, e5, e6⟩
        clear o0 o1 of0 of1 l0 l1 e0 e1 e2 e3 e4 e5 e6
        refine beginL 10 (fun w' => w'.cell? ⟨w.heap.size + 1 + 1 + 1 + 1, 0, none⟩ = some (.slice av (RR k).length cv) ∧ w'.cell? ⟨w.heap.size, 0, none⟩ = some (.slice (some ⟨bb, oo, none⟩) A.length capA) ∧ w'.cell? ⟨bb, oo + k * 7, none⟩ = some (.string A[k].s) ∧ w'.cell? ⟨bb, oo + k * 7 + 1, none⟩ = some (.int .i64 A[k].a) ∧ w'.cell? ⟨bb, oo + k * 7 + 2, none⟩ = some (.int .i64 A[k].b) ∧ w'.cell? ⟨bb, oo + k * 7 + 3, none⟩ = some (.int .i64 A[k].c) ∧ w'.cell? ⟨bb, oo + k * 7 + 4, none⟩ = some (.int .i64 A[k].x) ∧ w'.cell? ⟨bb, oo + k * 7 + 5, none⟩ = some (.int .i64 A[k].y) ∧ w'.cell? ⟨bb, oo + k * 7 + 6, none⟩ = some (.int .i64 A[k].z)) (by kernel_rfl) (by first | with_reducible exact hk9 | with_reducible exact keep9 hk9 (Gr.refl _).alloc) (fun hHeld => ?_)
        obtain ⟨W, hW⟩ : ∃ W, W = wx.drew := ⟨_, rfl⟩
        rw [← hW] at hk9 hHeld ⊢
        have gW : Gr wx W := by rw [hW]; exact (Gr.refl _).drew
        clear hW
        refine takeW 0 34 (v := ?_) rfl rfl (by decide) (by kernel_rfl) (by kernel_rfl) (by kernel_rfl) (fun _ _ _ h => h) (by rfl) ?_ (fun _ => hHeld) ?_
        rotate_left
        · (intro w; (try intro hSw); (try dsimp only at hSw); go_simp; try with_reducible rfl)
        simp only [Act.put, List.setIfInBounds_toArray, List.set_cons_zero, List.set_cons_succ]
        refine takeS 1 35 (v := ?_) rfl rfl (by decide) (by kernel_rfl) (by kernel_rfl) (by kernel_rfl) (by kernel_rfl) (by kernel_rfl) (fun _ _ _ h => h) (by rfl) ?_ hHeld ?_
        rotate_left
        · (intro w; (try intro hSw); (try dsimp only at hSw); go_simp; try with_reducible rfl)
        simp only [Act.put, List.setIfInBounds_toArray, List.set_cons_zero, List.set_cons_succ]
        refine takeW 2 36 (v := ?_) rfl rfl (by decide) (by kernel_rfl) (by kernel_rfl) (by kernel_rfl) (fun _ _ _ h => h) (by rfl) ?_ (fun _ => hHeld) ?_
        rotate_left
        · (intro w; (try intro hSw); (try dsimp only at hSw); go_simp; try with_reducible rfl)
        simp only [Act.put, List.setIfInBounds_toArray, List.set_cons_zero, List.set_cons_succ]
        refine takeS 3 37 (v := ?_) rfl rfl (by decide) (by kernel_rfl) (by kernel_rfl) (by kernel_rfl) (by kernel_rfl) (by kernel_rfl) (fun _ _ _ h => h) (by rfl) ?_ hHeld ?_
        rotate_left
        · (intro w; (try intro hSw); (try dsimp only at hSw); go_simp; try with_reducible rfl)
        simp only [Act.put, List.setIfInBounds_toArray, List.set_cons_zero, List.set_cons_succ]
        refine takeW 4 38 (v := ?_) rfl rfl (by decide) (by kernel_rfl) (by kernel_rfl) (by kernel_rfl) (fun _ _ _ h => h) (by rfl) ?_ (fun _ => hHeld) ?_
        rotate_left
        · (intro w; (try intro hSw); (try dsimp only at hSw); go_simp; try with_reducible rfl)
        simp only [Act.put, List.setIfInBounds_toArray, List.set_cons_zero, List.set_cons_succ]
        refine takeW 5 39 (v := ?_) rfl rfl (by decide) (by kernel_rfl) (by kernel_rfl) (by kernel_rfl) (fun _ _ _ h => h) (by rfl) ?_ (fun _ => hHeld) ?_
        rotate_left
        · (intro w; (try intro hSw); (try dsimp only at hSw); go_simp; try with_reducible rfl)
        simp only [Act.put, List.setIfInBounds_toArray, List.set_cons_zero, List.set_cons_succ]
        refine takeS 6 40 (v := ?_) rfl rfl (by decide) (by kernel_rfl) (by kernel_rfl) (by kernel_rfl) (by kernel_rfl) (by kernel_rfl) (fun _ _ _ h => h) (by rfl) ?_ hHeld ?_
        rotate_left
        · (intro w; (try intro hSw); (try dsimp only at hSw); go_simp; try with_reducible rfl)
        simp only [Act.put, List.setIfInBounds_toArray, List.set_cons_zero, List.set_cons_succ]
        refine stepC 7 (by kernel_rfl) rfl (fun K hK => ?_)
        go_simp
        refine hK.out _ _ (by first | with_reducible exact hk9 | with_reducible exact keep9 hk9 (Gr.refl _).alloc) (fun hHeldN => ?_)
        clear hHeld hK K
        have hHeld := hHeldN
        clear hHeldN
        have HI6 : Hid (PuI w (W.alloc (.cells #[.string A[k].s, .int .i64 A[k].a, .int .i64 A[k].b, .int .i64 A[k].c, .int .i64 A[k].x, .int .i64 A[k].y, .int .i64 A[k].z] 31)) (.slice (some ⟨bb, oo, none⟩) A.length capA) (.slice adM M.length capM) x m (.slice av (RR k).length cv) (.slice none 0 0) (RR k) []) := HIx.out.gr gW.alloc
        have HN6 : Hid (∀ j u, ([A[k]].flatMap accC)[j]? = some u → (W.alloc (.cells #[.string A[k].s, .int .i64 A[k].a, .int .i64 A[k].b, .int .i64 A[k].c, .int .i64 A[k].x, .int .i64 A[k].y, .int .i64 A[k].z] 31)).cell? ((⟨W.heap.size, 0, none⟩ : Addr).add j) = some u) := accs_lit W A[k] 31
        have hwz : w.heap.size + 5 ≤ (W.alloc (.cells #[.string A[k].s, .int .i64 A[k].a, .int .i64 A[k].b, .int .i64 A[k].c, .int .i64 A[k].x, .int .i64 A[k].y, .int .i64 A[k].z] 31)).heap.size := by have := HI6.out.ob.lt; omega
        have nbl : ∀ i, i ≤ w.heap.size + 1 + 1 + 1 + 1 → some i ≠ (Value.ownBlock (.slice av (RR k).length cv)) := fun i hi e => by have := (HI6.out.o1.lt _ e.symm).1; omega
        refine stepC 8 (by kernel_rfl) rfl (fun K hK => ?_)
        (refine step_append_own (by rfl) _ _ 22 (by rfl) (w.heap.size + 5) 31 i0 (.agg #[.string ⟨#[]⟩, .int .i64 0, .int .i64 0, .int .i64 0, .int .i64 0, .int .i64 0, .int .i64 0]) 7 64 Try.underlying22 hi hz0 hz1 hz2 rfl (by decide) _ _ _ (by rfl) HI6.out.o1 ⟨W.heap.size, 0, none⟩ 1 1 ([A[k]].flatMap accC) (by rfl) (by rfl) HN6.out (acc_one _) (by unfold maxLen; omega) (by omega) hwz ?_; intro v6 w6 ho6 hgr6 hn6; replace hk9 := keep9g (keep9 hk9 (Gr.refl W).alloc) hgr6 (nbl _ (by simp)) (nbl _ (by simp; omega)) (nbl _ (by simp; omega)) (nbl _ (by simp; omega)) (nbl _ (by simp; omega)) (nbl _ (by simp; omega)) (nbl _ (by simp; omega)) (nbl _ (by simp; omega)) (nbl _ (by simp; omega)))
        refine hK.out (Act.put _ (some 42) v6) _ (by first | with_reducible exact hk9 | with_reducible exact keep9 hk9 (Gr.refl _).alloc) (fun hHeldN => ?_)
        clear hHeld hK K
        have hHeld := hHeldN
        clear hHeldN
        simp only [Act.put, List.setIfInBounds_toArray, List.set_cons_zero, List.set_cons_succ]
        obtain ⟨a6, c6, rfl⟩ := own_slice ho6
        have HI7 : Hid (PuI w (w6.setCell ⟨w.heap.size + 1 + 1 + 1 + 1, 0, none⟩ (.slice a6 (((RR k)).length + 1) c6)) (.slice (some ⟨bb, oo, none⟩) A.length capA) (.slice adM M.length capM) x m (.slice a6 (((RR k)).length + 1) c6) (.slice none 0 0) ((RR k) ++ [A[k]]) []) := HI6.out.app1 ho6 hgr6
        obtain ⟨o0, o1, of0, of1, ol⟩ := HI6.out.ob.grown hgr6 (nbl _ (by omega))
        clear ho6 hgr6 hn6 HI6 HN6 hwz gW nbl
        refine takeW 9 43 (v := ?_) rfl rfl (by decide) (by kernel_rfl) (by kernel_rfl) (by kernel_rfl) (fun _ _ _ h => h) (by rfl) ?_ (fun _ => hHeld) ?_
        rotate_left
        · (intro w; (try intro hSw); (try dsimp only at hSw); go_simp; try with_reducible rfl)
        simp only [Act.put, List.setIfInBounds_toArray, List.set_cons_zero, List.set_cons_succ]
        refine stepS (by kernel_rfl) rfl (by kernel_rfl) (fun K hK => ?_)
        go_simp
        refine hK.out _ _ ?_
        clear hHeld hK K
        refine doneL (by kernel_rfl) ?_ _
        clear hk9 o0 o1 of0 of1 ol
        go_wp2
        go_roundw
        case rel => exact ⟨k + 1, _, by omega, by go_num, by rw [HST.out]; exact HI7.out⟩
        case measure => simp [intOf]; omega
    · skip
      obtain rfl : k = A.length := by omega
      obtain ⟨av, cv, hv⟩ := own_slice HIr.out.o1
      subst hv
      rw [H1E.out] at HIr
      have hXl : XX.length ≤ 12 := by have := H1L.out A.length; rw [H1E.out] at this; exact this
      obtain ⟨wz, hwz⟩ : ∃ x, x = wr := ⟨_, rfl⟩
      subst hwz
      obtain ⟨l0, l1, _, _, ll⟩ := HIr.out.lb
      clear H1Y H1N H1L hlt hRl HT0
      go_wp2
      go_loopw [9, 10] (fun dn ix wr => ∃ (k : Nat) (u : Value), k ≤ M.length ∧ ix = .int .i64 (k : Int) ∧ dn = .bool (decide (q < k)) ∧ PuI w wr (.slice adA A.length capA) (.slice adM M.length capM) x m (.slice av XX.length cv) u XX (QQ k)) (fun _ ix _ => M.length - (intOf ix).toNat)
      case atStart => exact ⟨0, .slice none 0 0, by omega, rfl, by simp, by rw [H20.out]; exact HIr.out⟩
      case round =>
        obtain ⟨k, u, hk2, rfl, rfl, hI⟩ := hrel
        have HIr2 : Hid (PuI w wr (.slice adA A.length capA) (.slice adM M.length capM) x m (.slice av XX.length cv) u XX (QQ k)) := hI
        clear hI HIr l0 l1 ll
        have hQl := H2N.out k hk2
        obtain ⟨au, cu, hv⟩ := own_slice HIr2.out.o2
        subst hv
        by_cases hlt : k < M.length
        · obtain ⟨bb, oo, rfl, hbb0, _⟩ := MksAt.at HMM.out k hlt
          by_cases hq : k < q
          · obtain ⟨hbl, hne, hst⟩ := H2L.out k hlt hq
            have HST : Hid (QQ (k + 1) = QQ k ++ [M[k]]) := hst
            have hd : decide (q < k) = false := decide_eq_false (by omega)
            rw [hd]
            clear hst hd
            obtain ⟨l0, l1, _, _, ll⟩ := HIr2.out.lb
            obtain ⟨_, _, ee, hba, e0, _⟩ := MksAt.at (RowAt.gr HMM.out HIr2.out.g) k hlt
            cases ee
            have x0 := HIr2.out.mb.c0
            have xl := HIr2.out.mb.lt
            go_upto_region 12 with fail
            refine wp_region_held_drew (S := (fun w' => Gr wr w' ∧ w'.cell? ⟨w.heap.size, 1, none⟩ = some (.slice (some ⟨bb, oo, none⟩) M.length capM) ∧ w'.cell? ⟨bb, oo + k * 5, none⟩ = some (.string M[k].key) ∧ w'.cell? ⟨w.heap.size + 1 + 1, 0, none⟩ = some (.string m.key))) (by kernel_rfl) (by exact hold3p (by (with_reducible repeat' (first | exact Gr.refl _ | refine Gr.set ?_ _ ?_ _ | refine Gr.alloc ?_ | refine Gr.drew ?_ | refine Gr.trans ?_ (by assumption))) <;> (first | (simp; done) | (simp; omega) | omega)) l1 e0 x0) (fun hHeld => ?_)
            refine ty 0 51 hHeld ?_
            refine ty 1 52 hHeld ?_
            refine ty 2 53 hHeld ?_
            refine ty 3 54 hHeld ?_
            refine ty 4 55 hHeld ?_
            refine ty 5 56 hHeld ?_
            refine ty 6 57 hHeld ?_
            refine ty 7 58 hHeld ?_
            refine ty 8 59 hHeld ?_
            refine ty 9 60 hHeld ?_
            refine ty 10 61 hHeld ?_
            refine ty 11 62 hHeld ?_
            refine ty 12 63 hHeld ?_
            refine wpAnyH_done (by kernel_rfl) ?_ _
            obtain ⟨wx, hwx⟩ : ∃ W, W = wr.drew := ⟨_, rfl⟩
            have HIx : Hid (PuI w wx (.slice adA A.length capA) (.slice (some ⟨bb, oo, none⟩) M.length capM) x m (.slice av XX.length cv) (.slice au (QQ k).length cu) XX (QQ k)) := by show PuI _ _ _ _ _ _ _ _ _ _; rw [hwx]; exact HIr2.out.gr (Gr.refl _).drew
            rw [← hwx]
            clear hwx l0 l1 ll e0 x0 xl
            obtain ⟨l0, l1, _, _, ll⟩ := HIx.out.lb
            obtain ⟨_, _, ee, hba, e0, _⟩ := MksAt.at (RowAt.gr HMM.out HIx.out.g) k hlt
            cases ee
            have x0 := HIx.out.mb.c0
            have xl := HIx.out.mb.lt
            go_upto_region 15 with fail
            refine wp_region_held_drew (S := (fun w' => Gr wx w' ∧ w'.cell? ⟨w.heap.size, 1, none⟩ = some (.slice (some ⟨bb, oo, none⟩) M.length capM) ∧ w'.cell? ⟨bb, oo + k * 5, none⟩ = some (.string M[k].key) ∧ w'.cell? ⟨w.heap.size + 1 + 1, 0, none⟩ = some (.string m.key))) (by kernel_rfl) (by exact hold3p (by (with_reducible repeat' (first | exact Gr.refl _ | refine Gr.set ?_ _ ?_ _ | refine Gr.alloc ?_ | refine Gr.drew ?_ | refine Gr.trans ?_ (by assumption))) <;> (first | (simp; done) | (simp; omega) | omega)) l1 e0 x0) (fun hHeld => ?_)
            refine ty 0 70 hHeld ?_
            refine ty 1 71 hHeld ?_
            refine ty 2 72 hHeld ?_
            refine ty 3 73 hHeld ?_
            refine ty 4 74 hHeld ?_
            refine ty 5 75 hHeld ?_
            refine ty 6 76 hHeld ?_
            refine ty 7 77 hHeld ?_
            refine ty 8 78 hHeld ?_
            refine wpAnyH_done (by kernel_rfl) ?_ _
            obtain ⟨wy, hwx⟩ : ∃ W, W = wx.drew := ⟨_, rfl⟩
            have HIy : Hid (PuI w wy (.slice adA A.length capA) (.slice (some ⟨bb, oo, none⟩) M.length capM) x m (.slice av XX.length cv) (.slice au (QQ k).length cu) XX (QQ k)) := by show PuI _ _ _ _ _ _ _ _ _ _; rw [hwx]; exact HIx.out.gr (Gr.refl _).drew
            rw [← hwx]
            clear hwx l0 l1 ll e0 x0 xl
            go_upto_region 16 with fail
            obtain ⟨l0, l1, _, _, ll⟩ := HIy.out.lb
            obtain ⟨o0, o1, of0, of1, ol⟩ := HIy.out.ob
            obtain ⟨_, _, ee, hba, e0, e1, e2, e3, e4⟩ := MksAt.at (RowAt.gr HMM.out HIy.out.g) k hlt
            cases ee
            have hk9 : wy.drew.cell? ⟨w.heap.size + 1 + 1 + 1 + 1, 1, none⟩ = some (.slice au (QQ k).length cu) ∧ wy.drew.cell? ⟨w.heap.size, 1, none⟩ = some (.slice (some ⟨bb, oo, none⟩) M.length capM) ∧ wy.drew.cell? ⟨bb, oo + k * 5, none⟩ = some (.string M[k].key) ∧ wy.drew.cell? ⟨bb, oo + k * 5 + 1, none⟩ = some (.int .i64 M[k].k) ∧ wy.drew.cell? ⟨bb, oo + k * 5 + 2, none⟩ = some (.string M[k].t) ∧ wy.drew.cell? ⟨bb, oo + k * 5 + 3, none⟩ = some (.int .i64 M[k].n) ∧ wy.drew.cell? ⟨bb, oo + k * 5 + 4, none⟩ = some (.int .i64 M[k].st) := ⟨o1, l1, e0, e1, e2, e3, e4⟩
            clear o0 o1 of0 of1 l0 l1 e0 e1 e2 e3 e4
            refine beginL 10 (fun w' => w'.cell? ⟨w.heap.size + 1 + 1 + 1 + 1, 1, none⟩ = some (.slice au (QQ k).length cu) ∧ w'.cell? ⟨w.heap.size, 1, none⟩ = some (.slice (some ⟨bb, oo, none⟩) M.length capM) ∧ w'.cell? ⟨bb, oo + k * 5, none⟩ = some (.string M[k].key) ∧ w'.cell? ⟨bb, oo + k * 5 + 1, none⟩ = some (.int .i64 M[k].k) ∧ w'.cell? ⟨bb, oo + k * 5 + 2, none⟩ = some (.string M[k].t) ∧ w'.cell? ⟨bb, oo + k * 5 + 3, none⟩ = some (.int .i64 M[k].n) ∧ w'.cell? ⟨bb, oo + k * 5 + 4, none⟩ = some (.int .i64 M[k].st)) (by kernel_rfl) (by first | with_reducible exact hk9 | with_reducible exact keep7 hk9 (Gr.refl _).alloc) (fun hHeld => ?_)
            obtain ⟨W, hW⟩ : ∃ W, W = wy.drew := ⟨_, rfl⟩
            rw [← hW] at hk9 hHeld ⊢
            have gW : Gr wy W := by rw [hW]; exact (Gr.refl _).drew
            clear hW
            refine takeW 0 79 (v := ?_) rfl rfl (by decide) (by kernel_rfl) (by kernel_rfl) (by kernel_rfl) (fun _ _ _ h => h) (by rfl) ?_ (fun _ => hHeld) ?_
            rotate_left
            · (intro w; (try intro hSw); (try dsimp only at hSw); go_simp; try with_reducible rfl)
            simp only [Act.put, List.setIfInBounds_toArray, List.set_cons_zero, List.set_cons_succ]
            refine takeS 1 80 (v := ?_) rfl rfl (by decide) (by kernel_rfl) (by kernel_rfl) (by kernel_rfl) (by kernel_rfl) (by kernel_rfl) (fun _ _ _ h => h) (by rfl) ?_ hHeld ?_
            rotate_left
            · (intro w; (try intro hSw); (try dsimp only at hSw); go_simp; try with_reducible rfl)
            simp only [Act.put, List.setIfInBounds_toArray, List.set_cons_zero, List.set_cons_succ]
            refine takeW 2 81 (v := ?_) rfl rfl (by decide) (by kernel_rfl) (by kernel_rfl) (by kernel_rfl) (fun _ _ _ h => h) (by rfl) ?_ (fun _ => hHeld) ?_
            rotate_left
            · (intro w; (try intro hSw); (try dsimp only at hSw); go_simp; try with_reducible rfl)
            simp only [Act.put, List.setIfInBounds_toArray, List.set_cons_zero, List.set_cons_succ]
            refine takeS 3 82 (v := ?_) rfl rfl (by decide) (by kernel_rfl) (by kernel_rfl) (by kernel_rfl) (by kernel_rfl) (by kernel_rfl) (fun _ _ _ h => h) (by rfl) ?_ hHeld ?_
            rotate_left
            · (intro w; (try intro hSw); (try dsimp only at hSw); go_simp; try with_reducible rfl)
            simp only [Act.put, List.setIfInBounds_toArray, List.set_cons_zero, List.set_cons_succ]
            refine takeW 4 83 (v := ?_) rfl rfl (by decide) (by kernel_rfl) (by kernel_rfl) (by kernel_rfl) (fun _ _ _ h => h) (by rfl) ?_ (fun _ => hHeld) ?_
            rotate_left
            · (intro w; (try intro hSw); (try dsimp only at hSw); go_simp; try with_reducible rfl)
            simp only [Act.put, List.setIfInBounds_toArray, List.set_cons_zero, List.set_cons_succ]
            refine takeW 5 84 (v := ?_) rfl rfl (by decide) (by kernel_rfl) (by kernel_rfl) (by kernel_rfl) (fun _ _ _ h => h) (by rfl) ?_ (fun _ => hHeld) ?_
            rotate_left
            · (intro w; (try intro hSw); (try dsimp only at hSw); go_simp; try with_reducible rfl)
            simp only [Act.put, List.setIfInBounds_toArray, List.set_cons_zero, List.set_cons_succ]
            refine takeS 6 85 (v := ?_) rfl rfl (by decide) (by kernel_rfl) (by kernel_rfl) (by kernel_rfl) (by kernel_rfl) (by kernel_rfl) (fun _ _ _ h => h) (by rfl) ?_ hHeld ?_
            rotate_left
            · (intro w; (try intro hSw); (try dsimp only at hSw); go_simp; try with_reducible rfl)
            simp only [Act.put, List.setIfInBounds_toArray, List.set_cons_zero, List.set_cons_succ]
            refine stepC 7 (by kernel_rfl) rfl (fun K hK => ?_)
            go_simp
            refine hK.out _ _ (by first | with_reducible exact hk9 | with_reducible exact keep7 hk9 (Gr.refl _).alloc) (fun hHeldN => ?_)
            clear hHeld hK K
            have hHeld := hHeldN
            clear hHeldN
            have HI6 : Hid (PuI w (W.alloc (.cells #[.string M[k].key, .int .i64 M[k].k, .string M[k].t, .int .i64 M[k].n, .int .i64 M[k].st] 64)) (.slice adA A.length capA) (.slice (some ⟨bb, oo, none⟩) M.length capM) x m (.slice av XX.length cv) (.slice au (QQ k).length cu) XX (QQ k)) := HIy.out.gr gW.alloc
            have HN6 : Hid (∀ j u, ([M[k]].flatMap mkC)[j]? = some u → (W.alloc (.cells #[.string M[k].key, .int .i64 M[k].k, .string M[k].t, .int .i64 M[k].n, .int .i64 M[k].st] 64)).cell? ((⟨W.heap.size, 0, none⟩ : Addr).add j) = some u) := mks_lit W M[k] 64
            have hwz : w.heap.size + 5 ≤ (W.alloc (.cells #[.string M[k].key, .int .i64 M[k].k, .string M[k].t, .int .i64 M[k].n, .int .i64 M[k].st] 64)).heap.size := by have := HI6.out.ob.lt; omega
            have nbl : ∀ i, i ≤ w.heap.size + 1 + 1 + 1 + 1 → some i ≠ (Value.ownBlock (.slice au (QQ k).length cu)) := fun i hi e => by have := (HI6.out.o2.lt _ e.symm).1; omega
            refine stepC 8 (by kernel_rfl) rfl (fun K hK => ?_)
            (refine step_append_own (by rfl) _ _ 23 (by rfl) (w.heap.size + 5) 64 j0 (.agg #[.string ⟨#[]⟩, .int .i64 0, .string ⟨#[]⟩, .int .i64 0, .int .i64 0]) 5 56 Try.underlying23 hj hy0 hy1 hy2 rfl (by decide) _ _ _ (by rfl) HI6.out.o2 ⟨W.heap.size, 0, none⟩ 1 1 ([M[k]].flatMap mkC) (by rfl) (by rfl) HN6.out (mk_one _) (by unfold maxLen; omega) (by omega) hwz ?_; intro v6 w6 ho6 hgr6 hn6; replace hk9 := keep7g (keep7 hk9 (Gr.refl W).alloc) hgr6 (nbl _ (by simp)) (nbl _ (by simp; omega)) (nbl _ (by simp; omega)) (nbl _ (by simp; omega)) (nbl _ (by simp; omega)) (nbl _ (by simp; omega)) (nbl _ (by simp; omega)))
            refine hK.out (Act.put _ (some 87) v6) _ (by first | with_reducible exact hk9 | with_reducible exact keep7 hk9 (Gr.refl _).alloc) (fun hHeldN => ?_)
            clear hHeld hK K
            have hHeld := hHeldN
            clear hHeldN
            simp only [Act.put, List.setIfInBounds_toArray, List.set_cons_zero, List.set_cons_succ]
            obtain ⟨a6, c6, rfl⟩ := own_slice ho6
            have HI7 : Hid (PuI w (w6.setCell ⟨w.heap.size + 1 + 1 + 1 + 1, 1, none⟩ (.slice a6 (((QQ k)).length + 1) c6)) (.slice adA A.length capA) (.slice (some ⟨bb, oo, none⟩) M.length capM) x m (.slice av XX.length cv) (.slice a6 (((QQ k)).length + 1) c6) XX ((QQ k) ++ [M[k]])) := HI6.out.app2 ho6 hgr6
            obtain ⟨o0, o1, of0, of1, ol⟩ := HI6.out.ob.grown hgr6 (nbl _ (by omega))
            clear ho6 hgr6 hn6 HI6 HN6 hwz gW nbl
            refine takeW 9 88 (v := ?_) rfl rfl (by decide) (by kernel_rfl) (by kernel_rfl) (by kernel_rfl) (fun _ _ _ h => h) (by rfl) ?_ (fun _ => hHeld) ?_
            rotate_left
            · (intro w; (try intro hSw); (try dsimp only at hSw); go_simp; try with_reducible rfl)
            simp only [Act.put, List.setIfInBounds_toArray, List.set_cons_zero, List.set_cons_succ]
            refine stepS (by kernel_rfl) rfl (by kernel_rfl) (fun K hK => ?_)
            go_simp
            refine hK.out _ _ ?_
            clear hHeld hK K
            refine doneL (by kernel_rfl) ?_ _
            clear hk9 o0 o1 of0 of1 ol
            go_wp2
            go_roundw
            case rel => exact ⟨k + 1, _, by omega, by go_num, by simp; omega, by rw [HST.out]; exact HI7.out⟩
            case measure => simp [intOf]; omega
          by_cases hq2 : k = q
          · obtain ⟨hbl, ⟨hne, hst⟩ | ⟨hne, hst⟩⟩ := H2A.out k hlt hq2
            · have HST : Hid (QQ (k + 1) = QQ k ++ [m]) := hst
              have hd : decide (q < k) = false := decide_eq_false (by omega)
              have hpk : q < k + 1 := by omega
              rw [hd]
              clear hst hd hq hq2
              obtain ⟨l0, l1, _, _, ll⟩ := HIr2.out.lb
              obtain ⟨_, _, ee, hba, e0, _⟩ := MksAt.at (RowAt.gr HMM.out HIr2.out.g) k hlt
              cases ee
              have x0 := HIr2.out.mb.c0
              have xl := HIr2.out.mb.lt
              go_upto_region 12 with fail
              refine wp_region_held_drew (S := (fun w' => Gr wr w' ∧ w'.cell? ⟨w.heap.size, 1, none⟩ = some (.slice (some ⟨bb, oo, none⟩) M.length capM) ∧ w'.cell? ⟨bb, oo + k * 5, none⟩ = some (.string M[k].key) ∧ w'.cell? ⟨w.heap.size + 1 + 1, 0, none⟩ = some (.string m.key))) (by kernel_rfl) (by exact hold3p (by (with_reducible repeat' (first | exact Gr.refl _ | refine Gr.set ?_ _ ?_ _ | refine Gr.alloc ?_ | refine Gr.drew ?_ | refine Gr.trans ?_ (by assumption))) <;> (first | (simp; done) | (simp; omega) | omega)) l1 e0 x0) (fun hHeld => ?_)
              refine ty 0 51 hHeld ?_
              refine ty 1 52 hHeld ?_
              refine ty 2 53 hHeld ?_
              refine ty 3 54 hHeld ?_
              refine ty 4 55 hHeld ?_
              refine ty 5 56 hHeld ?_
              refine ty 6 57 hHeld ?_
              refine ty 7 58 hHeld ?_
              refine ty 8 59 hHeld ?_
              refine ty 9 60 hHeld ?_
              refine ty 10 61 hHeld ?_
              refine ty 11 62 hHeld ?_
              refine ty 12 63 hHeld ?_
              refine wpAnyH_done (by kernel_rfl) ?_ _
              obtain ⟨wx, hwx⟩ : ∃ W, W = wr.drew := ⟨_, rfl⟩
              have HIx : Hid (PuI w wx (.slice adA A.length capA) (.slice (some ⟨bb, oo, none⟩) M.length capM) x m (.slice av XX.length cv) (.slice au (QQ k).length cu) XX (QQ k)) := by show PuI _ _ _ _ _ _ _ _ _ _; rw [hwx]; exact HIr2.out.gr (Gr.refl _).drew
              rw [← hwx]
              clear hwx l0 l1 ll e0 x0 xl
              obtain ⟨l0, l1, _, _, ll⟩ := HIx.out.lb
              obtain ⟨o0, o1, of0, of1, ol⟩ := HIx.out.ob
              obtain ⟨b0, b1, b2, b3, b4, bl⟩ := HIx.out.mb
              have HN4 : Hid (∀ j u, ([m].flatMap mkC)[j]? = some u → (wx.alloc (.cells #[.string m.key, .int .i64 m.k, .string m.t, .int .i64 m.n, .int .i64 m.st] 64)).cell? ((⟨wx.heap.size, 0, none⟩ : Addr).add j) = some u) := mks_lit wx m 64
              have HI4 : Hid (PuI w (wx.alloc (.cells #[.string m.key, .int .i64 m.k, .string m.t, .int .i64 m.n, .int .i64 m.st] 64)) (.slice adA A.length capA) (.slice (some ⟨bb, oo, none⟩) M.length capM) x m (.slice av XX.length cv) (.slice au (QQ k).length cu) XX (QQ k)) := HIx.out.gr (Gr.refl _).alloc
              have hwz : w.heap.size + 5 ≤ (wx.alloc (.cells #[.string m.key, .int .i64 m.k, .string m.t, .int .i64 m.n, .int .i64 m.st] 64)).heap.size := by have := HI4.out.ob.lt; omega
              go_wp2_with (first
                | (at_builtin; refine wpList_append_own _ rfl _ _ 23 rfl (w.heap.size + 5) 64 j0 (.agg #[.string ⟨#[]⟩, .int .i64 0, .string ⟨#[]⟩, .int .i64 0, .int .i64 0]) 5 56 Try.underlying23 hj hy0 hy1 hy2 rfl (by decide) _ _ _ rfl HI4.out.o2 ⟨wx.heap.size, 0, none⟩ 1 1 ([m].flatMap mkC) rfl rfl HN4.out (mk_one _) (by unfold maxLen; omega) (by omega) hwz ?_)
                | fail)
              intro v5 w5 ho5 hgr5 _
              obtain ⟨a5, c5, rfl⟩ := own_slice ho5
              have HI5 : Hid (PuI w (w5.setCell ⟨w.heap.size + 1 + 1 + 1 + 1, 1, none⟩ (.slice a5 (((QQ k)).length + 1) c5)) (.slice adA A.length capA) (.slice (some ⟨bb, oo, none⟩) M.length capM) x m (.slice av XX.length cv) (.slice a5 (((QQ k)).length + 1) c5) XX ((QQ k) ++ [m])) := HI4.out.app2 ho5 hgr5
              have nbl : ∀ i, i ≤ w.heap.size + 1 + 1 + 1 + 1 → some i ≠ (Value.ownBlock (.slice au (QQ k).length cu)) := fun i hi e => by have := (HI4.out.o2.lt _ e.symm).1; omega
              clear b0 b1 b2 b3 b4 bl l0 l1 o0 o1 of0 of1
              obtain ⟨o0, o1, of0, of1, ol⟩ := HI4.out.ob.grown hgr5 (nbl _ (by omega))
              obtain ⟨l0, l1, _, _, ll⟩ := HI4.out.lb.grown hgr5 (nbl _ (by omega))
              obtain ⟨r0, r1, rf0, rf1, rl⟩ := HI4.out.rs.grown hgr5 (nbl _ (by omega))
              clear ho5 hgr5 HI4 HN4 hwz nbl
              go_upto_region 15 with fail
              obtain ⟨wv, hwv⟩ : ∃ W, W = w5.setCell ⟨w.heap.size + 1 + 1 + 1 + 1, 1, none⟩ (.slice a5 ((QQ k).length + 1) c5) := ⟨_, rfl⟩
              rw [← hwv] at HI5 ⊢
              clear hwv o0 o1 of0 of1 ol l0 l1 ll r0 r1 rf0 rf1 rl
              obtain ⟨Q2, hQ2⟩ : ∃ Q, QQ k ++ [m] = Q := ⟨_, rfl⟩
              have hln : (QQ k).length + 1 = Q2.length := by rw [← hQ2]; simp
              rw [hln] at HI5 ⊢
              rw [hQ2] at HI5 HST
              have hQl : Q2.length ≤ M.length + 1 + 1 := by omega
              clear hln hQ2
              obtain ⟨l0, l1, _, _, ll⟩ := HI5.out.lb
              obtain ⟨_, _, ee, hba, e0, _⟩ := MksAt.at (RowAt.gr HMM.out HI5.out.g) k hlt
              cases ee
              have x0 := HI5.out.mb.c0
              have xl := HI5.out.mb.lt
              skip
              refine wp_region_held_drew (S := (fun w' => Gr wv w' ∧ w'.cell? ⟨w.heap.size, 1, none⟩ = some (.slice (some ⟨bb, oo, none⟩) M.length capM) ∧ w'.cell? ⟨bb, oo + k * 5, none⟩ = some (.string M[k].key) ∧ w'.cell? ⟨w.heap.size + 1 + 1, 0, none⟩ = some (.string m.key))) (by kernel_rfl) (by exact hold3p (by (with_reducible repeat' (first | exact Gr.refl _ | refine Gr.set ?_ _ ?_ _ | refine Gr.alloc ?_ | refine Gr.drew ?_ | refine Gr.trans ?_ (by assumption))) <;> (first | (simp; done) | (simp; omega) | omega)) l1 e0 x0) (fun hHeld => ?_)
              refine ty 0 70 hHeld ?_
              refine ty 1 71 hHeld ?_
              refine ty 2 72 hHeld ?_
              refine ty 3 73 hHeld ?_
              refine ty 4 74 hHeld ?_
              refine ty 5 75 hHeld ?_
              refine ty 6 76 hHeld ?_
              refine ty 7 77 hHeld ?_
              refine ty 8 78 hHeld ?_
              refine wpAnyH_done (by kernel_rfl) ?_ _
              obtain ⟨wy, hwx⟩ : ∃ W, W = wv.drew := ⟨_, rfl⟩
              have HIy : Hid (PuI w wy (.slice adA A.length capA) (.slice (some ⟨bb, oo, none⟩) M.length capM) x m (.slice av XX.length cv) (.slice a5 Q2.length c5) XX Q2) := by show PuI _ _ _ _ _ _ _ _ _ _; rw [hwx]; exact HI5.out.gr (Gr.refl _).drew
              rw [← hwx]
              clear hwx l0 l1 ll e0 x0 xl
              go_wp2
              go_roundw
              case rel => exact ⟨k + 1, _, by omega, by go_num, by simp; omega, by rw [HST.out]; exact HIy.out⟩
              case measure => simp [intOf]; omega
            · have HST : Hid (QQ (k + 1) = QQ k ++ [m] ++ [M[k]]) := hst
              have hd : decide (q < k) = false := decide_eq_false (by omega)
              have hpk : q < k + 1 := by omega
              rw [hd]
              clear hst hd hq hq2
              obtain ⟨l0, l1, _, _, ll⟩ := HIr2.out.lb
              obtain ⟨_, _, ee, hba, e0, _⟩ := MksAt.at (RowAt.gr HMM.out HIr2.out.g) k hlt
              cases ee
              have x0 := HIr2.out.mb.c0
              have xl := HIr2.out.mb.lt
              go_upto_region 12 with fail
              refine wp_region_held_drew (S := (fun w' => Gr wr w' ∧ w'.cell? ⟨w.heap.size, 1, none⟩ = some (.slice (some ⟨bb, oo, none⟩) M.length capM) ∧ w'.cell? ⟨bb, oo + k * 5, none⟩ = some (.string M[k].key) ∧ w'.cell? ⟨w.heap.size + 1 + 1, 0, none⟩ = some (.string m.key))) (by kernel_rfl) (by exact hold3p (by (with_reducible repeat' (first | exact Gr.refl _ | refine Gr.set ?_ _ ?_ _ | refine Gr.alloc ?_ | refine Gr.drew ?_ | refine Gr.trans ?_ (by assumption))) <;> (first | (simp; done) | (simp; omega) | omega)) l1 e0 x0) (fun hHeld => ?_)
              refine ty 0 51 hHeld ?_
              refine ty 1 52 hHeld ?_
              refine ty 2 53 hHeld ?_
              refine ty 3 54 hHeld ?_
              refine ty 4 55 hHeld ?_
              refine ty 5 56 hHeld ?_
              refine ty 6 57 hHeld ?_
              refine ty 7 58 hHeld ?_
              refine ty 8 59 hHeld ?_
              refine ty 9 60 hHeld ?_
              refine ty 10 61 hHeld ?_
              refine ty 11 62 hHeld ?_
              refine ty 12 63 hHeld ?_
              refine wpAnyH_done (by kernel_rfl) ?_ _
              obtain ⟨wx, hwx⟩ : ∃ W, W = wr.drew := ⟨_, rfl⟩
              have HIx : Hid (PuI w wx (.slice adA A.length capA) (.slice (some ⟨bb, oo, none⟩) M.length capM) x m (.slice av XX.length cv) (.slice au (QQ k).length cu) XX (QQ k)) := by show PuI _ _ _ _ _ _ _ _ _ _; rw [hwx]; exact HIr2.out.gr (Gr.refl _).drew
              rw [← hwx]
              clear hwx l0 l1 ll e0 x0 xl
              obtain ⟨l0, l1, _, _, ll⟩ := HIx.out.lb
              obtain ⟨o0, o1, of0, of1, ol⟩ := HIx.out.ob
              obtain ⟨b0, b1, b2, b3, b4, bl⟩ := HIx.out.mb
              have HN4 : Hid (∀ j u, ([m].flatMap mkC)[j]? = some u → (wx.alloc (.cells #[.string m.key, .int .i64 m.k, .string m.t, .int .i64 m.n, .int .i64 m.st] 64)).cell? ((⟨wx.heap.size, 0, none⟩ : Addr).add j) = some u) := mks_lit wx m 64
              have HI4 : Hid (PuI w (wx.alloc (.cells #[.string m.key, .int .i64 m.k, .string m.t, .int .i64 m.n, .int .i64 m.st] 64)) (.slice adA A.length capA) (.slice (some ⟨bb, oo, none⟩) M.length capM) x m (.slice av XX.length cv) (.slice au (QQ k).length cu) XX (QQ k)) := HIx.out.gr (Gr.refl _).alloc
              have hwz : w.heap.size + 5 ≤ (wx.alloc (.cells #[.string m.key, .int .i64 m.k, .string m.t, .int .i64 m.n, .int .i64 m.st] 64)).heap.size := by have := HI4.out.ob.lt; omega
              go_wp2_with (first
                | (at_builtin; refine wpList_append_own _ rfl _ _ 23 rfl (w.heap.size + 5) 64 j0 (.agg #[.string ⟨#[]⟩, .int .i64 0, .string ⟨#[]⟩, .int .i64 0, .int .i64 0]) 5 56 Try.underlying23 hj hy0 hy1 hy2 rfl (by decide) _ _ _ rfl HI4.out.o2 ⟨wx.heap.size, 0, none⟩ 1 1 ([m].flatMap mkC) rfl rfl HN4.out (mk_one _) (by unfold maxLen; omega) (by omega) hwz ?_)
                | fail)
              intro v5 w5 ho5 hgr5 _
              obtain ⟨a5, c5, rfl⟩ := own_slice ho5
              have HI5 : Hid (PuI w (w5.setCell ⟨w.heap.size + 1 + 1 + 1 + 1, 1, none⟩ (.slice a5 (((QQ k)).length + 1) c5)) (.slice adA A.length capA) (.slice (some ⟨bb, oo, none⟩) M.length capM) x m (.slice av XX.length cv) (.slice a5 (((QQ k)).length + 1) c5) XX ((QQ k) ++ [m])) := HI4.out.app2 ho5 hgr5
              have nbl : ∀ i, i ≤ w.heap.size + 1 + 1 + 1 + 1 → some i ≠ (Value.ownBlock (.slice au (QQ k).length cu)) := fun i hi e => by have := (HI4.out.o2.lt _ e.symm).1; omega
              clear b0 b1 b2 b3 b4 bl l0 l1 o0 o1 of0 of1
              obtain ⟨o0, o1, of0, of1, ol⟩ := HI4.out.ob.grown hgr5 (nbl _ (by omega))
              obtain ⟨l0, l1, _, _, ll⟩ := HI4.out.lb.grown hgr5 (nbl _ (by omega))
              obtain ⟨r0, r1, rf0, rf1, rl⟩ := HI4.out.rs.grown hgr5 (nbl _ (by omega))
              clear ho5 hgr5 HI4 HN4 hwz nbl
              go_upto_region 15 with fail
              obtain ⟨wv, hwv⟩ : ∃ W, W = w5.setCell ⟨w.heap.size + 1 + 1 + 1 + 1, 1, none⟩ (.slice a5 ((QQ k).length + 1) c5) := ⟨_, rfl⟩
              rw [← hwv] at HI5 ⊢
              clear hwv o0 o1 of0 of1 ol l0 l1 ll r0 r1 rf0 rf1 rl
              obtain ⟨Q2, hQ2⟩ : ∃ Q, QQ k ++ [m] = Q := ⟨_, rfl⟩
              have hln : (QQ k).length + 1 = Q2.length := by rw [← hQ2]; simp
              rw [hln] at HI5 ⊢
              rw [hQ2] at HI5 HST
              have hQl : Q2.length ≤ M.length + 1 + 1 := by omega
              clear hln hQ2
              obtain ⟨l0, l1, _, _, ll⟩ := HI5.out.lb
              obtain ⟨_, _, ee, hba, e0, _⟩ := MksAt.at (RowAt.gr HMM.out HI5.out.g) k hlt
              cases ee
              have x0 := HI5.out.mb.c0
              have xl := HI5.out.mb.lt
              skip
              refine wp_region_held_drew (S := (fun w' => Gr wv w' ∧ w'.cell? ⟨w.heap.size, 1, none⟩ = some (.slice (some ⟨bb, oo, none⟩) M.length capM) ∧ w'.cell? ⟨bb, oo + k * 5, none⟩ = some (.string M[k].key) ∧ w'.cell? ⟨w.heap.size + 1 + 1, 0, none⟩ = some (.string m.key))) (by kernel_rfl) (by exact hold3p (by (with_reducible repeat' (first | exact Gr.refl _ | refine Gr.set ?_ _ ?_ _ | refine Gr.alloc ?_ | refine Gr.drew ?_ | refine Gr.trans ?_ (by assumption))) <;> (first | (simp; done) | (simp; omega) | omega)) l1 e0 x0) (fun hHeld => ?_)
              refine ty 0 70 hHeld ?_
              refine ty 1 71 hHeld ?_
              refine ty 2 72 hHeld ?_
              refine ty 3 73 hHeld ?_
              refine ty 4 74 hHeld ?_
              refine ty 5 75 hHeld ?_
              refine ty 6 76 hHeld ?_
              refine ty 7 77 hHeld ?_
              refine ty 8 78 hHeld ?_
              refine wpAnyH_done (by kernel_rfl) ?_ _
              obtain ⟨wy, hwx⟩ : ∃ W, W = wv.drew := ⟨_, rfl⟩
              have HIy : Hid (PuI w wy (.slice adA A.length capA) (.slice (some ⟨bb, oo, none⟩) M.length capM) x m (.slice av XX.length cv) (.slice a5 Q2.length c5) XX Q2) := by show PuI _ _ _ _ _ _ _ _ _ _; rw [hwx]; exact HI5.out.gr (Gr.refl _).drew
              rw [← hwx]
              clear hwx l0 l1 ll e0 x0 xl
              go_upto_region 16 with fail
              obtain ⟨l0, l1, _, _, ll⟩ := HIy.out.lb
              obtain ⟨o0, o1, of0, of1, ol⟩ := HIy.out.ob
              obtain ⟨_, _, ee, hba, e0, e1, e2, e3, e4⟩ := MksAt.at (RowAt.gr HMM.out HIy.out.g) k hlt
              cases ee
              have hk9 : wy.drew.cell? ⟨w.heap.size + 1 + 1 + 1 + 1, 1, none⟩ = some (.slice a5 Q2.length c5) ∧ wy.drew.cell? ⟨w.heap.size, 1, none⟩ = some (.slice (some ⟨bb, oo, none⟩) M.length capM) ∧ wy.drew.cell? ⟨bb, oo + k * 5, none⟩ = some (.string M[k].key) ∧ wy.drew.cell? ⟨bb, oo + k * 5 + 1, none⟩ = some (.int .i64 M[k].k) ∧ wy.drew.cell? ⟨bb, oo + k * 5 + 2, none⟩ = some (.string M[k].t) ∧ wy.drew.cell? ⟨bb, oo + k * 5 + 3, none⟩ = some (.int .i64 M[k].n) ∧ wy.drew.cell? ⟨bb, oo + k * 5 + 4, none⟩ = some (.int .i64 M[k].st) := ⟨o1, l1, e0, e1, e2, e3, e4⟩
              clear o0 o1 of0 of1 l0 l1 e0 e1 e2 e3 e4
              refine beginL 10 (fun w' => w'.cell? ⟨w.heap.size + 1 + 1 + 1 + 1, 1, none⟩ = some (.slice a5 Q2.length c5) ∧ w'.cell? ⟨w.heap.size, 1, none⟩ = some (.slice (some ⟨bb, oo, none⟩) M.length capM) ∧ w'.cell? ⟨bb, oo + k * 5, none⟩ = some (.string M[k].key) ∧ w'.cell? ⟨bb, oo + k * 5 + 1, none⟩ = some (.int .i64 M[k].k) ∧ w'.cell? ⟨bb, oo + k * 5 + 2, none⟩ = some (.string M[k].t) ∧ w'.cell? ⟨bb, oo + k * 5 + 3, none⟩ = some (.int .i64 M[k].n) ∧ w'.cell? ⟨bb, oo + k * 5 + 4, none⟩ = some (.int .i64 M[k].st)) (by kernel_rfl) (by first | with_reducible exact hk9 | with_reducible exact keep7 hk9 (Gr.refl _).alloc) (fun hHeld => ?_)
              obtain ⟨W, hW⟩ : ∃ W, W = wy.drew := ⟨_, rfl⟩
              rw [← hW] at hk9 hHeld ⊢
              have gW : Gr wy W := by rw [hW]; exact (Gr.refl _).drew
              clear hW
              refine takeW 0 79 (v := ?_) rfl rfl (by decide) (by kernel_rfl) (by kernel_rfl) (by kernel_rfl) (fun _ _ _ h => h) (by rfl) ?_ (fun _ => hHeld) ?_
              rotate_left
              · (intro w; (try intro hSw); (try dsimp only at hSw); go_simp; try with_reducible rfl)
              simp only [Act.put, List.setIfInBounds_toArray, List.set_cons_zero, List.set_cons_succ]
              refine takeS 1 80 (v := ?_) rfl rfl (by decide) (by kernel_rfl) (by kernel_rfl) (by kernel_rfl) (by kernel_rfl) (by kernel_rfl) (fun _ _ _ h => h) (by rfl) ?_ hHeld ?_
              rotate_left
              · (intro w; (try intro hSw); (try dsimp only at hSw); go_simp; try with_reducible rfl)
              simp only [Act.put, List.setIfInBounds_toArray, List.set_cons_zero, List.set_cons_succ]
              refine takeW 2 81 (v := ?_) rfl rfl (by decide) (by kernel_rfl) (by kernel_rfl) (by kernel_rfl) (fun _ _ _ h => h) (by rfl) ?_ (fun _ => hHeld) ?_
              rotate_left
              · (intro w; (try intro hSw); (try dsimp only at hSw); go_simp; try with_reducible rfl)
              simp only [Act.put, List.setIfInBounds_toArray, List.set_cons_zero, List.set_cons_succ]
              refine takeS 3 82 (v := ?_) rfl rfl (by decide) (by kernel_rfl) (by kernel_rfl) (by kernel_rfl) (by kernel_rfl) (by kernel_rfl) (fun _ _ _ h => h) (by rfl) ?_ hHeld ?_
              rotate_left
              · (intro w; (try intro hSw); (try dsimp only at hSw); go_simp; try with_reducible rfl)
              simp only [Act.put, List.setIfInBounds_toArray, List.set_cons_zero, List.set_cons_succ]
              refine takeW 4 83 (v := ?_) rfl rfl (by decide) (by kernel_rfl) (by kernel_rfl) (by kernel_rfl) (fun _ _ _ h => h) (by rfl) ?_ (fun _ => hHeld) ?_
              rotate_left
              · (intro w; (try intro hSw); (try dsimp only at hSw); go_simp; try with_reducible rfl)
              simp only [Act.put, List.setIfInBounds_toArray, List.set_cons_zero, List.set_cons_succ]
              refine takeW 5 84 (v := ?_) rfl rfl (by decide) (by kernel_rfl) (by kernel_rfl) (by kernel_rfl) (fun _ _ _ h => h) (by rfl) ?_ (fun _ => hHeld) ?_
              rotate_left
              · (intro w; (try intro hSw); (try dsimp only at hSw); go_simp; try with_reducible rfl)
              simp only [Act.put, List.setIfInBounds_toArray, List.set_cons_zero, List.set_cons_succ]
              refine takeS 6 85 (v := ?_) rfl rfl (by decide) (by kernel_rfl) (by kernel_rfl) (by kernel_rfl) (by kernel_rfl) (by kernel_rfl) (fun _ _ _ h => h) (by rfl) ?_ hHeld ?_
              rotate_left
              · (intro w; (try intro hSw); (try dsimp only at hSw); go_simp; try with_reducible rfl)
              simp only [Act.put, List.setIfInBounds_toArray, List.set_cons_zero, List.set_cons_succ]
              refine stepC 7 (by kernel_rfl) rfl (fun K hK => ?_)
              go_simp
              refine hK.out _ _ (by first | with_reducible exact hk9 | with_reducible exact keep7 hk9 (Gr.refl _).alloc) (fun hHeldN => ?_)
              clear hHeld hK K
              have hHeld := hHeldN
              clear hHeldN
              have HI6 : Hid (PuI w (W.alloc (.cells #[.string M[k].key, .int .i64 M[k].k, .string M[k].t, .int .i64 M[k].n, .int .i64 M[k].st] 64)) (.slice adA A.length capA) (.slice (some ⟨bb, oo, none⟩) M.length capM) x m (.slice av XX.length cv) (.slice a5 Q2.length c5) XX Q2) := HIy.out.gr gW.alloc
              have HN6 : Hid (∀ j u, ([M[k]].flatMap mkC)[j]? = some u → (W.alloc (.cells #[.string M[k].key, .int .i64 M[k].k, .string M[k].t, .int .i64 M[k].n, .int .i64 M[k].st] 64)).cell? ((⟨W.heap.size, 0, none⟩ : Addr).add j) = some u) := mks_lit W M[k] 64
              have hwz : w.heap.size + 5 ≤ (W.alloc (.cells #[.string M[k].key, .int .i64 M[k].k, .string M[k].t, .int .i64 M[k].n, .int .i64 M[k].st] 64)).heap.size := by have := HI6.out.ob.lt; omega
              have nbl : ∀ i, i ≤ w.heap.size + 1 + 1 + 1 + 1 → some i ≠ (Value.ownBlock (.slice a5 Q2.length c5)) := fun i hi e => by have := (HI6.out.o2.lt _ e.symm).1; omega
              refine stepC 8 (by kernel_rfl) rfl (fun K hK => ?_)
              (refine step_append_own (by rfl) _ _ 23 (by rfl) (w.heap.size + 5) 64 j0 (.agg #[.string ⟨#[]⟩, .int .i64 0, .string ⟨#[]⟩, .int .i64 0, .int .i64 0]) 5 56 Try.underlying23 hj hy0 hy1 hy2 rfl (by decide) _ _ _ (by rfl) HI6.out.o2 ⟨W.heap.size, 0, none⟩ 1 1 ([M[k]].flatMap mkC) (by rfl) (by rfl) HN6.out (mk_one _) (by unfold maxLen; omega) (by omega) hwz ?_; intro v6 w6 ho6 hgr6 hn6; replace hk9 := keep7g (keep7 hk9 (Gr.refl W).alloc) hgr6 (nbl _ (by simp)) (nbl _ (by simp; omega)) (nbl _ (by simp; omega)) (nbl _ (by simp; omega)) (nbl _ (by simp; omega)) (nbl _ (by simp; omega)) (nbl _ (by simp; omega)))
              refine hK.out (Act.put _ (some 87) v6) _ (by first | with_reducible exact hk9 | with_reducible exact keep7 hk9 (Gr.refl _).alloc) (fun hHeldN => ?_)
              clear hHeld hK K
              have hHeld := hHeldN
              clear hHeldN
              simp only [Act.put, List.setIfInBounds_toArray, List.set_cons_zero, List.set_cons_succ]
              obtain ⟨a6, c6, rfl⟩ := own_slice ho6
              have HI7 : Hid (PuI w (w6.setCell ⟨w.heap.size + 1 + 1 + 1 + 1, 1, none⟩ (.slice a6 ((Q2).length + 1) c6)) (.slice adA A.length capA) (.slice (some ⟨bb, oo, none⟩) M.length capM) x m (.slice av XX.length cv) (.slice a6 ((Q2).length + 1) c6) XX (Q2 ++ [M[k]])) := HI6.out.app2 ho6 hgr6
              obtain ⟨o0, o1, of0, of1, ol⟩ := HI6.out.ob.grown hgr6 (nbl _ (by omega))
              clear ho6 hgr6 hn6 HI6 HN6 hwz gW nbl
              refine takeW 9 88 (v := ?_) rfl rfl (by decide) (by kernel_rfl) (by kernel_rfl) (by kernel_rfl) (fun _ _ _ h => h) (by rfl) ?_ (fun _ => hHeld) ?_
              rotate_left
              · (intro w; (try intro hSw); (try dsimp only at hSw); go_simp; try with_reducible rfl)
              simp only [Act.put, List.setIfInBounds_toArray, List.set_cons_zero, List.set_cons_succ]
              refine stepS (by kernel_rfl) rfl (by kernel_rfl) (fun K hK => ?_)
              go_simp
              refine hK.out _ _ ?_
              clear hHeld hK K
              refine doneL (by kernel_rfl) ?_ _
              clear hk9 o0 o1 of0 of1 ol
              go_wp2
              go_roundw
              case rel => exact ⟨k + 1, _, by omega, by go_num, by simp; omega, by rw [HST.out]; exact HI7.out⟩
              case measure => simp [intOf]; omega
          · obtain ⟨hne, hst⟩ := H2H.out k hlt (by omega)
            have HST : Hid (QQ (k + 1) = QQ k ++ [M[k]]) := hst
            have hd : decide (q < k) = true := decide_eq_true (by omega)
            rw [hd]
            clear hst hd
            obtain ⟨l0, l1, _, _, ll⟩ := HIr2.out.lb
            obtain ⟨_, _, ee, hba, e0, _⟩ := MksAt.at (RowAt.gr HMM.out HIr2.out.g) k hlt
            cases ee
            have x0 := HIr2.out.mb.c0
            have xl := HIr2.out.mb.lt
            go_upto_region 12 with fail
            refine wp_region_held_drew (S := (fun w' => Gr wr w' ∧ w'.cell? ⟨w.heap.size, 1, none⟩ = some (.slice (some ⟨bb, oo, none⟩) M.length capM) ∧ w'.cell? ⟨bb, oo + k * 5, none⟩ = some (.string M[k].key) ∧ w'.cell? ⟨w.heap.size + 1 + 1, 0, none⟩ = some (.string m.key))) (by kernel_rfl) (by exact hold3p (by (with_reducible repeat' (first | exact Gr.refl _ | refine Gr.set ?_ _ ?_ _ | refine Gr.alloc ?_ | refine Gr.drew ?_ | refine Gr.trans ?_ (by assumption))) <;> (first | (simp; done) | (simp; omega) | omega)) l1 e0 x0) (fun hHeld => ?_)
            refine ty 0 51 hHeld ?_
            refine ty 1 52 hHeld ?_
            refine ty 2 53 hHeld ?_
            refine tn 3 54 hHeld ?_
            refine tn 4 55 hHeld ?_
            refine tn 5 56 hHeld ?_
            refine tn 6 57 hHeld ?_
            refine tn 7 58 hHeld ?_
            refine tn 8 59 hHeld ?_
            refine tn 9 60 hHeld ?_
            refine tn 10 61 hHeld ?_
            refine tn 11 62 hHeld ?_
            refine ty 12 63 hHeld ?_
            refine wpAnyH_done (by kernel_rfl) ?_ _
            obtain ⟨wx, hwx⟩ : ∃ W, W = wr.drew := ⟨_, rfl⟩
            have HIx : Hid (PuI w wx (.slice adA A.length capA) (.slice (some ⟨bb, oo, none⟩) M.length capM) x m (.slice av XX.length cv) (.slice au (QQ k).length cu) XX (QQ k)) := by show PuI _ _ _ _ _ _ _ _ _ _; rw [hwx]; exact HIr2.out.gr (Gr.refl _).drew
            rw [← hwx]
            clear hwx l0 l1 ll e0 x0 xl
            obtain ⟨l0, l1, _, _, ll⟩ := HIx.out.lb
            obtain ⟨_, _, ee, hba, e0, _⟩ := MksAt.at (RowAt.gr HMM.out HIx.out.g) k hlt
            cases ee
            have x0 := HIx.out.mb.c0
            have xl := HIx.out.mb.lt
            go_upto_region 15 with fail
            refine wp_region_held_drew (S := (fun w' => Gr wx w' ∧ w'.cell? ⟨w.heap.size, 1, none⟩ = some (.slice (some ⟨bb, oo, none⟩) M.length capM) ∧ w'.cell? ⟨bb, oo + k * 5, none⟩ = some (.string M[k].key) ∧ w'.cell? ⟨w.heap.size + 1 + 1, 0, none⟩ = some (.string m.key))) (by kernel_rfl) (by exact hold3p (by (with_reducible repeat' (first | exact Gr.refl _ | refine Gr.set ?_ _ ?_ _ | refine Gr.alloc ?_ | refine Gr.drew ?_ | refine Gr.trans ?_ (by assumption))) <;> (first | (simp; done) | (simp; omega) | omega)) l1 e0 x0) (fun hHeld => ?_)
            refine ty 0 70 hHeld ?_
            refine ty 1 71 hHeld ?_
            refine ty 2 72 hHeld ?_
            refine ty 3 73 hHeld ?_
            refine ty 4 74 hHeld ?_
            refine ty 5 75 hHeld ?_
            refine ty 6 76 hHeld ?_
            refine ty 7 77 hHeld ?_
            refine ty 8 78 hHeld ?_
            refine wpAnyH_done (by kernel_rfl) ?_ _
            obtain ⟨wy, hwx⟩ : ∃ W, W = wx.drew := ⟨_, rfl⟩
            have HIy : Hid (PuI w wy (.slice adA A.length capA) (.slice (some ⟨bb, oo, none⟩) M.length capM) x m (.slice av XX.length cv) (.slice au (QQ k).length cu) XX (QQ k)) := by show PuI _ _ _ _ _ _ _ _ _ _; rw [hwx]; exact HIx.out.gr (Gr.refl _).drew
            rw [← hwx]
            clear hwx l0 l1 ll e0 x0 xl
            go_upto_region 16 with fail
            obtain ⟨l0, l1, _, _, ll⟩ := HIy.out.lb
            obtain ⟨o0, o1, of0, of1, ol⟩ := HIy.out.ob
            obtain ⟨_, _, ee, hba, e0, e1, e2, e3, e4⟩ := MksAt.at (RowAt.gr HMM.out HIy.out.g) k hlt
            cases ee
            have hk9 : wy.drew.cell? ⟨w.heap.size + 1 + 1 + 1 + 1, 1, none⟩ = some (.slice au (QQ k).length cu) ∧ wy.drew.cell? ⟨w.heap.size, 1, none⟩ = some (.slice (some ⟨bb, oo, none⟩) M.length capM) ∧ wy.drew.cell? ⟨bb, oo + k * 5, none⟩ = some (.string M[k].key) ∧ wy.drew.cell? ⟨bb, oo + k * 5 + 1, none⟩ = some (.int .i64 M[k].k) ∧ wy.drew.cell? ⟨bb, oo + k * 5 + 2, none⟩ = some (.string M[k].t) ∧ wy.drew.cell? ⟨bb, oo + k * 5 + 3, none⟩ = some (.int .i64 M[k].n) ∧ wy.drew.cell? ⟨bb, oo + k * 5 + 4, none⟩ = some (.int .i64 M[k].st) := ⟨o1, l1, e0, e1, e2, e3, e4⟩
            clear o0 o1 of0 of1 l0 l1 e0 e1 e2 e3 e4
            refine beginL 10 (fun w' => w'.cell? ⟨w.heap.size + 1 + 1 + 1 + 1, 1, none⟩ = some (.slice au (QQ k).length cu) ∧ w'.cell? ⟨w.heap.size, 1, none⟩ = some (.slice (some ⟨bb, oo, none⟩) M.length capM) ∧ w'.cell? ⟨bb, oo + k * 5, none⟩ = some (.string M[k].key) ∧ w'.cell? ⟨bb, oo + k * 5 + 1, none⟩ = some (.int .i64 M[k].k) ∧ w'.cell? ⟨bb, oo + k * 5 + 2, none⟩ = some (.string M[k].t) ∧ w'.cell? ⟨bb, oo + k * 5 + 3, none⟩ = some (.int .i64 M[k].n) ∧ w'.cell? ⟨bb, oo + k * 5 + 4, none⟩ = some (.int .i64 M[k].st)) (by kernel_rfl) (by first | with_reducible exact hk9 | with_reducible exact keep7 hk9 (Gr.refl _).alloc) (fun hHeld => ?_)
            obtain ⟨W, hW⟩ : ∃ W, W = wy.drew := ⟨_, rfl⟩
            rw [← hW] at hk9 hHeld ⊢
            have gW : Gr wy W := by rw [hW]; exact (Gr.refl _).drew
            clear hW
            refine takeW 0 79 (v := ?_) rfl rfl (by decide) (by kernel_rfl) (by kernel_rfl) (by kernel_rfl) (fun _ _ _ h => h) (by rfl) ?_ (fun _ => hHeld) ?_
            rotate_left
            · (intro w; (try intro hSw); (try dsimp only at hSw); go_simp; try with_reducible rfl)
            simp only [Act.put, List.setIfInBounds_toArray, List.set_cons_zero, List.set_cons_succ]
            refine takeS 1 80 (v := ?_) rfl rfl (by decide) (by kernel_rfl) (by kernel_rfl) (by kernel_rfl) (by kernel_rfl) (by kernel_rfl) (fun _ _ _ h => h) (by rfl) ?_ hHeld ?_
            rotate_left
            · (intro w; (try intro hSw); (try dsimp only at hSw); go_simp; try with_reducible rfl)
            simp only [Act.put, List.setIfInBounds_toArray, List.set_cons_zero, List.set_cons_succ]
            refine takeW 2 81 (v := ?_) rfl rfl (by decide) (by kernel_rfl) (by kernel_rfl) (by kernel_rfl) (fun _ _ _ h => h) (by rfl) ?_ (fun _ => hHeld) ?_
            rotate_left
            · (intro w; (try intro hSw); (try dsimp only at hSw); go_simp; try with_reducible rfl)
            simp only [Act.put, List.setIfInBounds_toArray, List.set_cons_zero, List.set_cons_succ]
            refine takeS 3 82 (v := ?_) rfl rfl (by decide) (by kernel_rfl) (by kernel_rfl) (by kernel_rfl) (by kernel_rfl) (by kernel_rfl) (fun _ _ _ h => h) (by rfl) ?_ hHeld ?_
            rotate_left
            · (intro w; (try intro hSw); (try dsimp only at hSw); go_simp; try with_reducible rfl)
            simp only [Act.put, List.setIfInBounds_toArray, List.set_cons_zero, List.set_cons_succ]
            refine takeW 4 83 (v := ?_) rfl rfl (by decide) (by kernel_rfl) (by kernel_rfl) (by kernel_rfl) (fun _ _ _ h => h) (by rfl) ?_ (fun _ => hHeld) ?_
            rotate_left
            · (intro w; (try intro hSw); (try dsimp only at hSw); go_simp; try with_reducible rfl)
            simp only [Act.put, List.setIfInBounds_toArray, List.set_cons_zero, List.set_cons_succ]
            refine takeW 5 84 (v := ?_) rfl rfl (by decide) (by kernel_rfl) (by kernel_rfl) (by kernel_rfl) (fun _ _ _ h => h) (by rfl) ?_ (fun _ => hHeld) ?_
            rotate_left
            · (intro w; (try intro hSw); (try dsimp only at hSw); go_simp; try with_reducible rfl)
            simp only [Act.put, List.setIfInBounds_toArray, List.set_cons_zero, List.set_cons_succ]
            refine takeS 6 85 (v := ?_) rfl rfl (by decide) (by kernel_rfl) (by kernel_rfl) (by kernel_rfl) (by kernel_rfl) (by kernel_rfl) (fun _ _ _ h => h) (by rfl) ?_ hHeld ?_
            rotate_left
            · (intro w; (try intro hSw); (try dsimp only at hSw); go_simp; try with_reducible rfl)
            simp only [Act.put, List.setIfInBounds_toArray, List.set_cons_zero, List.set_cons_succ]
            refine stepC 7 (by kernel_rfl) rfl (fun K hK => ?_)
            go_simp
            refine hK.out _ _ (by first | with_reducible exact hk9 | with_reducible exact keep7 hk9 (Gr.refl _).alloc) (fun hHeldN => ?_)
            clear hHeld hK K
            have hHeld := hHeldN
            clear hHeldN
            have HI6 : Hid (PuI w (W.alloc (.cells #[.string M[k].key, .int .i64 M[k].k, .string M[k].t, .int .i64 M[k].n, .int .i64 M[k].st] 64)) (.slice adA A.length capA) (.slice (some ⟨bb, oo, none⟩) M.length capM) x m (.slice av XX.length cv) (.slice au (QQ k).length cu) XX (QQ k)) := HIy.out.gr gW.alloc
            have HN6 : Hid (∀ j u, ([M[k]].flatMap mkC)[j]? = some u → (W.alloc (.cells #[.string M[k].key, .int .i64 M[k].k, .string M[k].t, .int .i64 M[k].n, .int .i64 M[k].st] 64)).cell? ((⟨W.heap.size, 0, none⟩ : Addr).add j) = some u) := mks_lit W M[k] 64
            have hwz : w.heap.size + 5 ≤ (W.alloc (.cells #[.string M[k].key, .int .i64 M[k].k, .string M[k].t, .int .i64 M[k].n, .int .i64 M[k].st] 64)).heap.size := by have := HI6.out.ob.lt; omega
            have nbl : ∀ i, i ≤ w.heap.size + 1 + 1 + 1 + 1 → some i ≠ (Value.ownBlock (.slice au (QQ k).length cu)) := fun i hi e => by have := (HI6.out.o2.lt _ e.symm).1; omega
            refine stepC 8 (by kernel_rfl) rfl (fun K hK => ?_)
            (refine step_append_own (by rfl) _ _ 23 (by rfl) (w.heap.size + 5) 64 j0 (.agg #[.string ⟨#[]⟩, .int .i64 0, .string ⟨#[]⟩, .int .i64 0, .int .i64 0]) 5 56 Try.underlying23 hj hy0 hy1 hy2 rfl (by decide) _ _ _ (by rfl) HI6.out.o2 ⟨W.heap.size, 0, none⟩ 1 1 ([M[k]].flatMap mkC) (by rfl) (by rfl) HN6.out (mk_one _) (by unfold maxLen; omega) (by omega) hwz ?_; intro v6 w6 ho6 hgr6 hn6; replace hk9 := keep7g (keep7 hk9 (Gr.refl W).alloc) hgr6 (nbl _ (by simp)) (nbl _ (by simp; omega)) (nbl _ (by simp; omega)) (nbl _ (by simp; omega)) (nbl _ (by simp; omega)) (nbl _ (by simp; omega)) (nbl _ (by simp; omega)))
            refine hK.out (Act.put _ (some 87) v6) _ (by first | with_reducible exact hk9 | with_reducible exact keep7 hk9 (Gr.refl _).alloc) (fun hHeldN => ?_)
            clear hHeld hK K
            have hHeld := hHeldN
            clear hHeldN
            simp only [Act.put, List.setIfInBounds_toArray, List.set_cons_zero, List.set_cons_succ]
            obtain ⟨a6, c6, rfl⟩ := own_slice ho6
            have HI7 : Hid (PuI w (w6.setCell ⟨w.heap.size + 1 + 1 + 1 + 1, 1, none⟩ (.slice a6 (((QQ k)).length + 1) c6)) (.slice adA A.length capA) (.slice (some ⟨bb, oo, none⟩) M.length capM) x m (.slice av XX.length cv) (.slice a6 (((QQ k)).length + 1) c6) XX ((QQ k) ++ [M[k]])) := HI6.out.app2 ho6 hgr6
            obtain ⟨o0, o1, of0, of1, ol⟩ := HI6.out.ob.grown hgr6 (nbl _ (by omega))
            clear ho6 hgr6 hn6 HI6 HN6 hwz gW nbl
            refine takeW 9 88 (v := ?_) rfl rfl (by decide) (by kernel_rfl) (by kernel_rfl) (by kernel_rfl) (fun _ _ _ h => h) (by rfl) ?_ (fun _ => hHeld) ?_
            rotate_left
            · (intro w; (try intro hSw); (try dsimp only at hSw); go_simp; try with_reducible rfl)
            simp only [Act.put, List.setIfInBounds_toArray, List.set_cons_zero, List.set_cons_succ]
            refine stepS (by kernel_rfl) rfl (by kernel_rfl) (fun K hK => ?_)
            go_simp
            refine hK.out _ _ ?_
            clear hHeld hK K
            refine doneL (by kernel_rfl) ?_ _
            clear hk9 o0 o1 of0 of1 ol
            go_wp2
            go_roundw
            case rel => exact ⟨k + 1, _, by omega, by go_num, by simp; omega, by rw [HST.out]; exact HI7.out⟩
            case measure => simp [intOf]; omega
        · obtain rfl : k = M.length := by omega
          obtain ⟨l0, l1, _, _, ll⟩ := HIr2.out.lb
          obtain ⟨o0, o1, of0, of1, ol⟩ := HIr2.out.ob
          obtain ⟨r0, r1, rf0, rf1, rl⟩ := HIr2.out.rs
          by_cases hp : q < M.length
          · have hd : decide (q < M.length) = true := decide_eq_true hp
            have HE : Hid (PM = QQ M.length) := by show _ = _; rw [H2E.out, if_neg (by omega)]
            rw [hd]
            clear hd
            go_wp2
            obtain ⟨b1, d1, h1, _, _, hr, hf, _⟩ := own_row HIr2.out.o1
            cases h1
            obtain ⟨b2, d2, h2, _, _, hr2, hf2, _⟩ := own_row HIr2.out.o2
            cases h2
            exact bodyPost_ret (v := .agg #[.slice av XX.length cv, .slice au (QQ M.length).length cu]) (by simp [results, Try.results59, go_sem, *]) rfl ⟨av, cv, au, cu, by rw [HE.out], (RowAt.setFar hr _ _ (fun a e => by have := hf a e; simp; omega)).setFar _ _ (fun a e => by have := hf a e; simp; omega), by rw [HE.out]; exact (RowAt.setFar hr2 _ _ (fun a e => by have := hf2 a e; simp; omega)).setFar _ _ (fun a e => by have := hf2 a e; simp; omega), (HIr2.out.g.set _ (by simp; omega) _).set _ (by simp; omega) _, fun a e => by have := hf a e; omega, fun a e => by have := hf2 a e; omega⟩
          · have hd : decide (q < M.length) = false := decide_eq_false hp
            have HE : Hid (PM = QQ M.length ++ [m]) := by show _ = _; rw [H2E.out, if_pos (by omega)]
            rw [hd]
            clear hd l0 l1 ll o0 o1 of0 of1 ol r0 r1 rf0 rf1 rl
            obtain ⟨l0, l1, _, _, ll⟩ := HIr2.out.lb
            obtain ⟨o0, o1, of0, of1, ol⟩ := HIr2.out.ob
            obtain ⟨b0, b1, b2, b3, b4, bl⟩ := HIr2.out.mb
            have HN4 : Hid (∀ j u, ([m].flatMap mkC)[j]? = some u → (wr.alloc (.cells #[.string m.key, .int .i64 m.k, .string m.t, .int .i64 m.n, .int .i64 m.st] 64)).cell? ((⟨wr.heap.size, 0, none⟩ : Addr).add j) = some u) := mks_lit wr m 64
            have HI4 : Hid (PuI w (wr.alloc (.cells #[.string m.key, .int .i64 m.k, .string m.t, .int .i64 m.n, .int .i64 m.st] 64)) (.slice adA A.length capA) (.slice adM M.length capM) x m (.slice av XX.length cv) (.slice au (QQ M.length).length cu) XX (QQ M.length)) := HIr2.out.gr (Gr.refl _).alloc
            have hwz : w.heap.size + 5 ≤ (wr.alloc (.cells #[.string m.key, .int .i64 m.k, .string m.t, .int .i64 m.n, .int .i64 m.st] 64)).heap.size := by have := HI4.out.ob.lt; omega
            go_wp2_with (first
              | (at_builtin; refine wpList_append_own _ rfl _ _ 23 rfl (w.heap.size + 5) 64 j0 (.agg #[.string ⟨#[]⟩, .int .i64 0, .string ⟨#[]⟩, .int .i64 0, .int .i64 0]) 5 56 Try.underlying23 hj hy0 hy1 hy2 rfl (by decide) _ _ _ rfl HI4.out.o2 ⟨wr.heap.size, 0, none⟩ 1 1 ([m].flatMap mkC) rfl rfl HN4.out (mk_one _) (by unfold maxLen; omega) (by omega) hwz ?_)
              | fail)
            intro v5 w5 ho5 hgr5 _
            obtain ⟨a5, c5, rfl⟩ := own_slice ho5
            have HI5 : Hid (PuI w (w5.setCell ⟨w.heap.size + 1 + 1 + 1 + 1, 1, none⟩ (.slice a5 (((QQ M.length)).length + 1) c5)) (.slice adA A.length capA) (.slice adM M.length capM) x m (.slice av XX.length cv) (.slice a5 (((QQ M.length)).length + 1) c5) XX ((QQ M.length) ++ [m])) := HI4.out.app2 ho5 hgr5
            have nbl : ∀ i, i ≤ w.heap.size + 1 + 1 + 1 + 1 → some i ≠ (Value.ownBlock (.slice au (QQ M.length).length cu)) := fun i hi e => by have := (HI4.out.o2.lt _ e.symm).1; omega
            clear b0 b1 b2 b3 b4 bl l0 l1 o0 o1 of0 of1
            obtain ⟨o0, o1, of0, of1, ol⟩ := HI4.out.ob.grown hgr5 (nbl _ (by omega))
            obtain ⟨l0, l1, _, _, ll⟩ := HI4.out.lb.grown hgr5 (nbl _ (by omega))
            obtain ⟨r0, r1, rf0, rf1, rl⟩ := HI4.out.rs.grown hgr5 (nbl _ (by omega))
            clear ho5 hgr5 HI4 HN4 hwz nbl
            go_wp2
            obtain ⟨b1, d1, h1, _, _, hr, hf, _⟩ := own_row HI5.out.o1
            cases h1
            obtain ⟨b2, d2, h2, _, _, hr2, hf2, _⟩ := own_row HI5.out.o2
            rw [List.length_append, List.length_singleton] at h2
            cases h2
            exact bodyPost_ret (v := .agg #[.slice av XX.length cv, .slice a5 ((QQ M.length).length + 1) c5]) (by simp [results, Try.results59, go_sem, *]) rfl ⟨av, cv, a5, c5, by rw [HE.out, List.length_append, List.length_singleton], (RowAt.setFar hr _ _ (fun a e => by have := hf a e; simp; omega)).setFar _ _ (fun a e => by have := hf a e; simp; omega), by rw [HE.out]; exact (RowAt.setFar hr2 _ _ (fun a e => by have := hf2 a e; simp; omega)).setFar _ _ (fun a e => by have := hf2 a e; simp; omega), (HI5.out.g.set _ (by simp; omega) _).set _ (by simp; omega) _, fun a e => by have := hf a e; omega, fun a e => by have := hf2 a e; omega⟩
end Go.Proofs.Ytgidkmipecfjhaa
