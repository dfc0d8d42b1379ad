/- Parts of these proofs, laid together. -/
import Derived.Test.YthfbpilfdfploaaGA
import Derived.Laws.NewBlocks
import Derived.Lib.ItoaNum
namespace Go.Proofs.Ythfbpilfdfploaa
open Go.RowKit

/- a block's first cells, which may be written -/
structure Cs (w : World) (g : Nat) (vs : List Value) : Prop where
  at_ : ∀ i v, vs[i]? = some v → w.cell? ⟨g, i, none⟩ = some v
  fz : ∀ i, i < vs.length → w.frozen? ⟨g, i, none⟩ = false
  lt : g < w.heap.size
theorem Cs.gr {w w' : World} {g : Nat} {vs : List Value} (h : Cs w g vs) (k : Gr w w') : Cs w' g vs :=
  ⟨fun i v e => k.keep (h.at_ i v e), fun i hi => k.keepF h.lt (h.fz i hi), Nat.lt_of_lt_of_le h.lt k.size⟩
theorem Cs.alloc {w : World} {g : Nat} {vs : List Value} (h : Cs w g vs) {o : Obj} : Cs (w.alloc o) g vs := h.gr (Gr.refl _).alloc
theorem Cs.drew {w : World} {g : Nat} {vs : List Value} (h : Cs w g vs) : Cs w.drew g vs := h.gr (Gr.refl _).drew
theorem Cs.new (w : World) (vs : List Value) (t : TypeId) (g : Nat) (hg : g = w.heap.size) : Cs (w.alloc (.cells vs.toArray t)) g vs := by
  refine ⟨fun i v e => ?_, fun i hi => ?_, by subst hg; simp⟩
  · rw [World.cell?_alloc_at _ _ _ _ hg]; simpa using e
  · exact World.frozen?_alloc_at _ _ _ _ hg
theorem Cs.far {w : World} {g : Nat} {vs : List Value} (h : Cs w g vs) (p : Addr) (v : Value) (hp : p.block ≠ g) : Cs (w.setCell p v) g vs :=
  ⟨fun i u e => (World.cell?_setCell_far _ _ _ _ (by simpa using hp)).trans (h.at_ i u e), fun i hi => (World.frozen?_setCell _ _ _ _).trans (h.fz i hi), by simpa using h.lt⟩
theorem Cs.set {w : World} {g : Nat} {vs : List Value} (h : Cs w g vs) (k : Nat) (hk : k < vs.length) (v : Value) : Cs (w.setCell ⟨g, k, none⟩ v) g (vs.set k v) := by
  have hl := h.lt
  have hf := h.fz k hk
  have hc := h.at_ k vs[k] (by simp [hk])
  refine ⟨fun i u e => ?_, fun i hi => (World.frozen?_setCell _ _ _ _).trans (h.fz i (by simpa using hi)), by simpa using h.lt⟩
  by_cases hik : i = k
  · subst hik
    rw [List.getElem?_set_self hk] at e
    cases e
    simp [go_sem, *]
  · rw [List.getElem?_set_ne (fun e => hik e.symm)] at e
    have := h.at_ i u e
    have hne : ¬ k = i := fun e => hik e.symm
    simp [go_sem, *]
theorem GB.cs {b : Nat} {w w' : World} {g : Nat} {vs : List Value} (h : GB b w w') (x : Cs w g vs) (hne : g ≠ b) : Cs w' g vs :=
  ⟨fun i v e => h.keep x.lt hne (x.at_ i v e), fun i hi => h.keepF x.lt hne (x.fz i hi), Nat.lt_of_lt_of_le x.lt h.size⟩
theorem GB.hops {b : Nat} {w w' : World} {ad : Option Addr} {L : List (Int × Int)} (h : GB b w w') (x : HopsAt w ad L) (hne : ∀ a, ad = some a → a.block ≠ b) : HopsAt w' ad L := by
  intro j hj
  obtain ⟨g, off, e, hg, h1, h2⟩ := x j hj
  have := hne _ e
  exact ⟨g, off, e, Nat.lt_of_lt_of_le hg h.size, h.keep hg this h1, h.keep hg this h2⟩

/- a frame is laid into a block -/
theorem Gr.set12 {a b : World} (h : Gr a b) (g : Nat) (hg : a.heap.size ≤ g) (v0 v1 v2 v3 v4 v5 v6 v7 v8 v9 v10 v11 : Value) : Gr a ((((((((((((b.setCell ⟨g, 0, none⟩ v0).setCell ⟨g, 1, none⟩ v1).setCell ⟨g, 2, none⟩ v2).setCell ⟨g, 3, none⟩ v3).setCell ⟨g, 4, none⟩ v4).setCell ⟨g, 5, none⟩ v5).setCell ⟨g, 6, none⟩ v6).setCell ⟨g, 7, none⟩ v7).setCell ⟨g, 8, none⟩ v8).setCell ⟨g, 9, none⟩ v9).setCell ⟨g, 10, none⟩ v10).setCell ⟨g, 11, none⟩ v11) :=
  (((((((((((h.set ⟨g, 0, none⟩ hg v0).set ⟨g, 1, none⟩ hg v1).set ⟨g, 2, none⟩ hg v2).set ⟨g, 3, none⟩ hg v3).set ⟨g, 4, none⟩ hg v4).set ⟨g, 5, none⟩ hg v5).set ⟨g, 6, none⟩ hg v6).set ⟨g, 7, none⟩ hg v7).set ⟨g, 8, none⟩ hg v8).set ⟨g, 9, none⟩ hg v9).set ⟨g, 10, none⟩ hg v10).set ⟨g, 11, none⟩ hg v11
theorem HopsAt.set12 {w : World} {ad : Option Addr} {L : List (Int × Int)} (h : HopsAt w ad L) (g : Nat) (hg : ∀ a, ad = some a → g ≠ a.block) (v0 v1 v2 v3 v4 v5 v6 v7 v8 v9 v10 v11 : Value) : HopsAt ((((((((((((w.setCell ⟨g, 0, none⟩ v0).setCell ⟨g, 1, none⟩ v1).setCell ⟨g, 2, none⟩ v2).setCell ⟨g, 3, none⟩ v3).setCell ⟨g, 4, none⟩ v4).setCell ⟨g, 5, none⟩ v5).setCell ⟨g, 6, none⟩ v6).setCell ⟨g, 7, none⟩ v7).setCell ⟨g, 8, none⟩ v8).setCell ⟨g, 9, none⟩ v9).setCell ⟨g, 10, none⟩ v10).setCell ⟨g, 11, none⟩ v11) ad L :=
  (((((((((((h.set ⟨g, 0, none⟩ v0 hg).set ⟨g, 1, none⟩ v1 hg).set ⟨g, 2, none⟩ v2 hg).set ⟨g, 3, none⟩ v3 hg).set ⟨g, 4, none⟩ v4 hg).set ⟨g, 5, none⟩ v5 hg).set ⟨g, 6, none⟩ v6 hg).set ⟨g, 7, none⟩ v7 hg).set ⟨g, 8, none⟩ v8 hg).set ⟨g, 9, none⟩ v9 hg).set ⟨g, 10, none⟩ v10 hg).set ⟨g, 11, none⟩ v11 hg
end Go.Proofs.Ythfbpilfdfploaa
namespace Go.Proofs.Ythfbpilfdfploaa.Csh

def okB (s : Int) : Bool := decide (-9223372036854775808 ≤ s) && decide (s ≤ 9223372036854775807)
def valE (s : Int) : Int := if okB s = true then s else 0
def errE (s : Int) : Int := if okB s = true then 0 else 40

def up (a : Int) : Int := if a < 0 then 18446744073709551615 else 0
def lowE (s : Int) : Int := s % 18446744073709551616
def highE (s : Int) : Int := s / 18446744073709551616 % 18446744073709551616
def sgn (n : Int) : Int := (n + 9223372036854775808) % 18446744073709551616 - 9223372036854775808

theorem low_rng (s : Int) : 0 ≤ lowE s ∧ lowE s < 18446744073709551616 := by unfold lowE; omega
theorem high_rng (s : Int) : 0 ≤ highE s ∧ highE s < 18446744073709551616 := by unfold highE; omega
theorem up_rng (a : Int) : 0 ≤ up a ∧ up a < 18446744073709551616 := by unfold up; split <;> omega

theorem low_step (s a : Int) : (lowE s + lowE a) % 18446744073709551616 = lowE (s + a) := by unfold lowE; omega
theorem high_step (s a : Int) (h0 : -9223372036854775808 ≤ a) (h1 : a ≤ 9223372036854775807) :
    (highE s + (up a + (lowE s + lowE a) / 18446744073709551616) % 18446744073709551616) % 18446744073709551616 = highE (s + a) := by
  unfold highE lowE up; split <;> omega

theorem narrow_yes (s : Int) (h : okB s = true) : highE s = up (sgn (lowE s)) ∧ sgn (lowE s) = s := by
  simp only [okB, Bool.and_eq_true, decide_eq_true_eq] at h
  unfold highE lowE up sgn
  refine ⟨?_, by omega⟩
  split <;> omega
theorem narrow_no (s : Int) (h : okB s = false) (h0 : -85070591730234615865843651857942052864 ≤ s) (h1 : s ≤ 85070591730234615865843651857942052864) : highE s ≠ up (sgn (lowE s)) := by
  simp only [okB, Bool.and_eq_false_iff, decide_eq_false_iff_not] at h
  unfold highE lowE up sgn
  split <;> omega

theorem mul_bound (a n : Int) (ha : -9223372036854775808 ≤ a) (ha1 : a ≤ 9223372036854775807) (hn : -9223372036854775808 ≤ n) (hn1 : n ≤ 9223372036854775807) :
    -85070591730234615865843651857942052864 ≤ a * n ∧ a * n ≤ 85070591730234615865843651857942052864 := by
  have h : (a * n).natAbs ≤ 85070591730234615865843651857942052864 := by
    rw [Int.natAbs_mul]
    calc a.natAbs * n.natAbs ≤ 9223372036854775808 * 9223372036854775808 := Nat.mul_le_mul (by omega) (by omega)
      _ = 85070591730234615865843651857942052864 := by decide
  omega

theorem times_low (a n : Int) : (lowE a * lowE n) % 18446744073709551616 = lowE (a * n) := by
  unfold lowE; rw [← Int.mul_emod]
theorem times_high (a n : Int) (ha : -9223372036854775808 ≤ a) (ha1 : a ≤ 9223372036854775807) (hn : -9223372036854775808 ≤ n) (hn1 : n ≤ 9223372036854775807) :
    (lowE a * lowE n / 18446744073709551616 - ((if a < 0 then lowE n else 0) + (if n < 0 then lowE a else 0))) % 18446744073709551616 = highE (a * n) := by
  unfold highE lowE
  by_cases h : a < 0 <;> by_cases k : n < 0
  · rw [if_pos h, if_pos k, show a % 18446744073709551616 = a + 18446744073709551616 by omega, show n % 18446744073709551616 = n + 18446744073709551616 by omega]
    have e : (a + 18446744073709551616) * (n + 18446744073709551616) = a * n + 18446744073709551616 * (a + n + 18446744073709551616) := by
      rw [Int.add_mul, Int.mul_add, Int.mul_add, Int.mul_comm a 18446744073709551616]; omega
    rw [e]
    generalize a * n = p
    omega
  · rw [if_pos h, if_neg k, show a % 18446744073709551616 = a + 18446744073709551616 by omega, show n % 18446744073709551616 = n by omega]
    have e : (a + 18446744073709551616) * n = a * n + 18446744073709551616 * n := by rw [Int.add_mul]
    rw [e]
    generalize a * n = p
    omega
  · rw [if_neg h, if_pos k, show a % 18446744073709551616 = a by omega, show n % 18446744073709551616 = n + 18446744073709551616 by omega]
    have e : a * (n + 18446744073709551616) = a * n + 18446744073709551616 * a := by rw [Int.mul_add, Int.mul_comm a 18446744073709551616]
    rw [e]
    generalize a * n = p
    omega
  · rw [if_neg h, if_neg k, show a % 18446744073709551616 = a by omega, show n % 18446744073709551616 = n by omega]
    generalize a * n = p
    omega

def sumE (l : List Int) : Int := l.foldr (· + ·) 0
theorem sum_cons (a : Int) (l : List Int) : sumE (a :: l) = a + sumE l := rfl
theorem sum_append (l m : List Int) : sumE (l ++ m) = sumE l + sumE m := by
  induction l with
  | nil => simp [sumE]
  | cons a l ih => rw [List.cons_append, sum_cons, sum_cons, ih]; omega
theorem sum_snoc (l : List Int) (a : Int) : sumE (l ++ [a]) = sumE l + a := by rw [sum_append]; simp [sumE]
theorem sum_more (l : List Int) (k : Nat) (h : k < l.length) : sumE (l.take (k + 1)) = sumE (l.take k) + l[k] := by
  rw [List.take_succ_eq_append_getElem h, sum_snoc]
theorem sum_reverse (l : List Int) : sumE l.reverse = sumE l := by
  induction l with
  | nil => rfl
  | cons a l ih => rw [List.reverse_cons, sum_snoc, sum_cons, ih]; omega
theorem sum_replicate (n : Nat) (a : Int) : sumE (List.replicate n a) = a * n := by
  induction n with
  | zero => simp [sumE]
  | succ n ih => rw [List.replicate_succ, sum_cons, ih, Int.natCast_succ, Int.mul_add]; omega
theorem sum_bound (l : List Int) (h : ∀ a ∈ l, -9223372036854775808 ≤ a ∧ a ≤ 9223372036854775807) : -9223372036854775808 * (l.length : Int) ≤ sumE l ∧ sumE l ≤ 9223372036854775808 * (l.length : Int) := by
  induction l with
  | nil => simp [sumE]
  | cons a l ih =>
    have h1 := ih (fun x hx => h x (List.mem_cons_of_mem _ hx))
    have h2 := h a List.mem_cons_self
    rw [sum_cons, List.length_cons]
    omega

/- the document's product -/
theorem times_back (a n : Int) (ha : -9223372036854775808 ≤ a) (ha1 : a ≤ 9223372036854775807) (hn : -9223372036854775808 ≤ n) (hn1 : n ≤ 9223372036854775807) (hz : n ≠ 0)
    (h1 : ¬ (a = -1 ∧ n = -9223372036854775808)) (h2 : ¬ (n = -1 ∧ a = -9223372036854775808)) (h3 : sgn ((sgn (a * n)).tdiv n) = a) : okB (a * n) = true := by
  by_cases e1 : n = 1
  · subst e1; rw [Int.mul_one]; simp [okB, ha, ha1]
  by_cases e2 : n = -1
  · subst e2
    have e : a * -1 = -a := by omega
    rw [e]
    simp only [okB, Bool.and_eq_true, decide_eq_true_eq]
    omega
  have hp : -9223372036854775808 ≤ sgn (a * n) ∧ sgn (a * n) ≤ 9223372036854775807 := by unfold sgn; omega
  have hm : (sgn (a * n) - a * n) % 18446744073709551616 = 0 := by unfold sgn; generalize a * n = x; omega
  generalize sgn (a * n) = p at *
  have hq : (p.tdiv n).natAbs ≤ 9223372036854775808 / 2 := by
    rw [Int.natAbs_tdiv]
    exact Nat.le_trans (Nat.div_le_div_left (by omega : 2 ≤ n.natAbs) (by omega)) (Nat.div_le_div_right (by omega))
  have hs : sgn (p.tdiv n) = p.tdiv n := by unfold sgn; omega
  rw [hs] at h3
  have hd := Int.mul_tdiv_add_tmod p n
  have hr : (p.tmod n).natAbs < n.natAbs := by rw [Int.natAbs_tmod]; exact Nat.mod_lt _ (by omega)
  rw [h3, Int.mul_comm] at hd
  have : a * n = p := by generalize a * n = x at *; omega
  rw [this]
  simp only [okB, Bool.and_eq_true, decide_eq_true_eq]
  exact hp
theorem times_forth (a n : Int) (hz : n ≠ 0) (h : okB (a * n) = true) (ha : -9223372036854775808 ≤ a) (ha1 : a ≤ 9223372036854775807) :
    ¬ (a = -1 ∧ n = -9223372036854775808) ∧ ¬ (n = -1 ∧ a = -9223372036854775808) ∧ sgn (a * n) = a * n ∧ sgn ((a * n).tdiv n) = a := by
  rw [Int.mul_tdiv_cancel a hz]
  simp only [okB, Bool.and_eq_true, decide_eq_true_eq] at h
  refine ⟨?_, ?_, ?_, ?_⟩
  · rintro ⟨rfl, rfl⟩; omega
  · rintro ⟨rfl, rfl⟩; omega
  · generalize a * n = x at *; unfold sgn; omega
  · unfold sgn; omega

/- the document's sum, in halves of 32 bits -/
theorem half_step (s a : Int) :
    s / 4294967296 + (a - (a.tmod 4294967296 + 4294967296).tmod 4294967296).tdiv 4294967296 + (s % 4294967296 + (a.tmod 4294967296 + 4294967296).tmod 4294967296) / 4294967296 = (s + a) / 4294967296 ∧
    (s % 4294967296 + (a.tmod 4294967296 + 4294967296).tmod 4294967296) % 4294967296 = (s + a) % 4294967296 := by
  have e : (a.tmod 4294967296 + 4294967296).tmod 4294967296 = a % 4294967296 := by
    by_cases h : 0 ≤ a
    · rw [Int.tmod_eq_emod_of_nonneg h, Int.tmod_eq_emod_of_nonneg (by omega)]; omega
    · have : a.tmod 4294967296 = -((-a) % 4294967296) := by rw [← Int.tmod_eq_emod_of_nonneg (by omega : 0 ≤ -a), Int.neg_tmod, Int.neg_neg]
      rw [this, Int.tmod_eq_emod_of_nonneg (by omega)]; omega
  rw [e]
  have e2 : (a - a % 4294967296).tdiv 4294967296 = a / 4294967296 := by
    have : a - a % 4294967296 = a / 4294967296 * 4294967296 := by omega
    rw [this, Int.mul_tdiv_cancel _ (by omega)]
  rw [e2]
  omega
end Go.Proofs.Ythfbpilfdfploaa.Csh
namespace Go.Proofs.Ythfbpilfdfploaa.Pot

def mayB (h i o : Int) : Bool := decide (0 ≤ i) && decide (i ≤ h) && decide (0 ≤ o) && decide (h + o ≤ 1000000000000000)
def chkE (h i o : Int) : Int := if mayB h i o = true then 0 else 2
def freeE (h i o : Int) : Int := if mayB h i o = true then h - i else 0
def roomE (h i o : Int) : Int := if mayB h i o = true then 1000000000000000 - h - o else 0
def argB (h i o a : Int) : Bool := mayB h i o && decide (1 ≤ a) && decide (a ≤ 1000000000000000)
def errE (h i o a m : Int) : Int := if argB h i o a = true then (if m < a then 50 else 0) else 2
def pick (e x : Int) : Int := if e = 0 then x else 0

theorem may_iff (h i o : Int) : mayB h i o = true ↔ 0 ≤ i ∧ i ≤ h ∧ 0 ≤ o ∧ h + o ≤ 1000000000000000 := by
  unfold mayB; simp only [Bool.and_eq_true, decide_eq_true_eq]; omega
theorem arg_iff (h i o a : Int) : argB h i o a = true ↔ (0 ≤ i ∧ i ≤ h ∧ 0 ≤ o ∧ h + o ≤ 1000000000000000) ∧ 1 ≤ a ∧ a ≤ 1000000000000000 := by
  unfold argB; rw [Bool.and_eq_true, Bool.and_eq_true, may_iff, decide_eq_true_eq, decide_eq_true_eq]; omega
theorem may_no (h i o : Int) (e : mayB h i o = false) : i < 0 ∨ h < i ∨ o < 0 ∨ 1000000000000000 < h + o := by
  have := may_iff h i o
  rw [e] at this
  simp at this
  omega
theorem arg_no (h i o a : Int) (e : argB h i o a = false) : mayB h i o = false ∨ a < 1 ∨ 1000000000000000 < a := by
  unfold argB at e
  cases hm : mayB h i o with
  | false => exact Or.inl rfl
  | true =>
    rw [hm] at e
    simp at e
    omega
theorem err_ok {h i o a m : Int} (h1 : argB h i o a = true) (h2 : ¬ m < a) : errE h i o a m = 0 := by unfold errE; rw [if_pos h1, if_neg h2]
theorem err_pot {h i o a m : Int} (h1 : argB h i o a = true) (h2 : m < a) : errE h i o a m = 50 := by unfold errE; rw [if_pos h1, if_pos h2]
theorem err_arg {h i o a m : Int} (h1 : argB h i o a = false) : errE h i o a m = 2 := by unfold errE; rw [if_neg (by rw [h1]; simp)]
theorem pick0 (x : Int) : pick 0 x = x := rfl
theorem pick50 (x : Int) : pick 50 x = 0 := rfl
theorem pick2 (x : Int) : pick 2 x = 0 := rfl
theorem err_cases (h i o a m : Int) : (errE h i o a m = 0 ∧ argB h i o a = true ∧ a ≤ m) ∨ (errE h i o a m = 50 ∧ argB h i o a = true ∧ m < a) ∨ (errE h i o a m = 2 ∧ argB h i o a = false) := by
  cases h1 : argB h i o a with
  | true =>
    by_cases h2 : m < a
    · exact Or.inr (Or.inl ⟨err_pot h1 h2, rfl, h2⟩)
    · exact Or.inl ⟨err_ok h1 h2, rfl, by omega⟩
  | false => exact Or.inr (Or.inr ⟨err_arg h1, rfl⟩)

def unit (d : Int) : Prop := d = -1 ∨ d = 0 ∨ d = 1
theorem unit_rng (x d a : Int) (hd : unit d) (h0 : 0 ≤ x) (h1 : x ≤ 1000000000000000) (a0 : 1 ≤ a) (a1 : a ≤ 1000000000000000) :
    (-9223372036854775808 ≤ d * a ∧ d * a ≤ 9223372036854775807) ∧ (-9223372036854775808 ≤ x + d * a ∧ x + d * a ≤ 9223372036854775807) := by
  rcases hd with rfl | rfl | rfl
  · rw [Int.neg_mul, Int.one_mul]; omega
  · rw [Int.zero_mul]; omega
  · rw [Int.one_mul]; omega

/- what is left where an amount goes: the most that may go -/
def mostDo (out : Bool) (h i o : Int) : Int := if out = true then freeE h i o else roomE h i o
def mostUn (out : Bool) (i o : Int) : Int := if out = true then o else i
def eDo (out : Bool) (h i o a : Int) : Int := errE h i o a (mostDo out h i o)
def eUn (out : Bool) (h i o a : Int) : Int := errE h i o a (mostUn out i o)
def sg (out : Bool) (x y : Int) : Int := if out = true then x else y
end Go.Proofs.Ythfbpilfdfploaa.Pot
namespace Go.Proofs.Ythfbpilfdfploaa.Act

def letB (b : UInt8) : Bool := decide ((97 : Int) ≤ (b.toNat : Int)) && decide ((b.toNat : Int) ≤ 122)
def digB (b : UInt8) : Bool := decide ((48 : Int) ≤ (b.toNat : Int)) && decide ((b.toNat : Int) ≤ 57)
def sgnB (b : UInt8) : Bool := letB b || digB b
def headB : List UInt8 → Bool
  | [] => false
  | b :: _ => letB b
def nameB (s : ByteArray) : Bool := decide (s.size ≤ 16) && headB s.data.toList && s.data.toList.all sgnB

theorem head_get (s : ByteArray) (h : 0 < s.size) : headB s.data.toList = letB (s[0]'h) := by
  have hl : s.data.toList.length = s.size := by simp
  have h0 : s.data.toList[0]'(by omega) = s[0]'h := rfl
  cases hc : s.data.toList with
  | nil => rw [hc] at hl; simp at hl; omega
  | cons b t => simp only [hc] at h0; rw [← h0]; rfl
theorem head_none (s : ByteArray) (h : s.size = 0) : headB s.data.toList = false := by
  have hl : s.data.toList.length = s.size := by simp
  cases hc : s.data.toList with
  | nil => rfl
  | cons b t => rw [hc] at hl; simp at hl; omega
theorem name_empty (s : ByteArray) (h : s.size = 0) : nameB s = false := by unfold nameB; rw [head_none s h]; simp
theorem name_long (s : ByteArray) (h : 16 < s.size) : nameB s = false := by unfold nameB; rw [decide_eq_false (by omega)]; rfl
theorem name_head (s : ByteArray) (h : 0 < s.size) (hb : letB (s[0]'h) = false) : nameB s = false := by unfold nameB; rw [head_get s h, hb]; simp
theorem name_sign (s : ByteArray) (k : Nat) (h : k < s.size) (hb : sgnB (s[k]'h) = false) : nameB s = false := by
  have hl : s.data.toList.length = s.size := by simp
  have hk : s.data.toList[k]'(by omega) = s[k]'h := rfl
  have : s.data.toList.all sgnB = false := by
    rw [List.all_eq_false]
    exact ⟨_, List.getElem_mem (by omega : k < s.data.toList.length), by rw [hk, hb]; simp⟩
  unfold nameB; rw [this]; simp
theorem name_yes (s : ByteArray) (h : 0 < s.size) (h16 : s.size ≤ 16) (hb : letB (s[0]'h) = true) (ha : ∀ j (hj : j < s.size), sgnB (s[j]'hj) = true) : nameB s = true := by
  have hl : s.data.toList.length = s.size := by simp
  have : s.data.toList.all sgnB = true := by
    rw [List.all_eq_true]
    intro b hm
    obtain ⟨j, hj, rfl⟩ := List.getElem_of_mem hm
    exact ha j (by omega)
  unfold nameB; rw [this, head_get s h, hb, decide_eq_true h16]; rfl
theorem sgn_let {b : UInt8} (h : letB b = true) : sgnB b = true := by unfold sgnB; rw [h]; rfl
theorem sgn_dig {b : UInt8} (h : digB b = true) : sgnB b = true := by unfold sgnB; rw [h]; simp
theorem sgn_no {b : UInt8} (h : letB b = false) (h2 : digB b = false) : sgnB b = false := by unfold sgnB; rw [h, h2]; rfl
theorem dig_let {b : UInt8} (h : digB b = true) : letB b = false := by
  unfold digB at h
  unfold letB
  simp only [Bool.and_eq_true, decide_eq_true_eq] at h
  rw [decide_eq_false (by omega)]; rfl
theorem name_pos {s : ByteArray} (h : nameB s = true) : 0 < s.size ∧ s.size ≤ 16 := by
  refine ⟨?_, ?_⟩
  · by_cases hz : s.size = 0
    · rw [name_empty s hz] at h; cases h
    · omega
  · by_cases hz : 16 < s.size
    · rw [name_long s hz] at h; cases h
    · omega

/- an activity, an account -/
def actB (k : Int) (s : ByteArray) (n : Int) : Bool := decide (1 ≤ k) && decide (k ≤ 4) && nameB s && decide (1 ≤ n) && decide (n ≤ 1000000000000000)
def chkE (k : Int) (s : ByteArray) (n : Int) : Int := if actB k s n = true then 0 else 60
theorem act_iff (k : Int) (s : ByteArray) (n : Int) : actB k s n = true ↔ (1 ≤ k ∧ k ≤ 4) ∧ nameB s = true ∧ 1 ≤ n ∧ n ≤ 1000000000000000 := by
  unfold actB; simp only [Bool.and_eq_true, decide_eq_true_eq]; constructor
  · rintro ⟨⟨⟨⟨a, b⟩, c⟩, d⟩, e⟩; exact ⟨⟨a, b⟩, c, d, e⟩
  · rintro ⟨⟨a, b⟩, c, d, e⟩; exact ⟨⟨⟨⟨a, b⟩, c⟩, d⟩, e⟩
theorem chk_yes {k : Int} {s : ByteArray} {n : Int} (h : actB k s n = true) : chkE k s n = 0 := by unfold chkE; rw [if_pos h]
theorem chk_no {k : Int} {s : ByteArray} {n : Int} (h : actB k s n = false) : chkE k s n = 60 := by unfold chkE; rw [h]; rfl
def accB (s : ByteArray) (a b c x y z : Int) : Bool := nameB s && Pot.mayB a b c && Pot.mayB x y z
def mayE (s : ByteArray) (a b c x y z : Int) : Int := if accB s a b c x y z = true then 0 else 2
theorem may_yes {s : ByteArray} {a b c x y z : Int} (h : accB s a b c x y z = true) : mayE s a b c x y z = 0 := by unfold mayE; rw [if_pos h]
theorem may_no {s : ByteArray} {a b c x y z : Int} (h : accB s a b c x y z = false) : mayE s a b c x y z = 2 := by unfold mayE; rw [h]; rfl

/- what keeps an activity from an account, whatever its pots have -/
def fitE (s : ByteArray) (a b c x y z : Int) (k : Int) (t : ByteArray) (n : Int) : Int := if accB s a b c x y z = true then (if (actB k t n && decide (t = s)) = true then 0 else 60) else 2

/- the ways of an activity: of Free, of Kept -/
def wF (k : Int) : Int := if k = 1 ∨ k = 3 then -1 else if k = 2 ∨ k = 4 then 1 else 0
def wK (k : Int) : Int := if k = 3 then 1 else if k = 4 then -1 else 0
theorem way_unit (k : Int) : Pot.unit (Act.wF k) ∧ Pot.unit (Act.wK k) := by
  unfold Act.wF Act.wK Pot.unit
  refine ⟨?_, ?_⟩ <;> (repeat' split) <;> simp
theorem way_rng (k n : Int) (h0 : 1 ≤ n) (h1 : n ≤ 1000000000000000) : (-9223372036854775808 ≤ Act.wF k * n ∧ Act.wF k * n ≤ 9223372036854775807) ∧ (-9223372036854775808 ≤ Act.wK k * n ∧ Act.wK k * n ≤ 9223372036854775807) :=
  ⟨(Pot.unit_rng 0 _ n (way_unit k).1 (by omega) (by omega) h0 h1).1, (Pot.unit_rng 0 _ n (way_unit k).2 (by omega) (by omega) h0 h1).1⟩
def dF (k : Int) (s : ByteArray) (n : Int) : Int := if actB k s n = true then wF k * n else 0
def dK (k : Int) (s : ByteArray) (n : Int) : Int := if actB k s n = true then wK k * n else 0

/- what one of pot's calls answers -/
structure Ch where
  h : Bool → Int → Int → Int → Int → Int
  i : Bool → Int → Int → Int → Int → Int
  o : Bool → Int → Int → Int → Int → Int
  e : Bool → Int → Int → Int → Int → Int
def chDo : Ch := ⟨fun out h i o a => Pot.pick (Pot.eDo out h i o a) (h + Pot.sg out (-1) 1 * a), fun out h i o a => Pot.pick (Pot.eDo out h i o a) (i + Pot.sg out 0 1 * a), fun out h i o a => Pot.pick (Pot.eDo out h i o a) (o + Pot.sg out 1 0 * a), fun out h i o a => Pot.eDo out h i o a⟩
def chUn : Ch := ⟨fun out h i o a => Pot.pick (Pot.eUn out h i o a) (h + Pot.sg out 1 (-1) * a), fun out h i o a => Pot.pick (Pot.eUn out h i o a) (i + Pot.sg out 0 (-1) * a), fun out h i o a => Pot.pick (Pot.eUn out h i o a) (o + Pot.sg out (-1) 0 * a), fun out h i o a => Pot.eUn out h i o a⟩
def chKe : Ch := ⟨fun out h i o a => Pot.pick (Pot.eUn out h i o a) (h + Pot.sg out 0 0 * a), fun out h i o a => Pot.pick (Pot.eUn out h i o a) (i + Pot.sg out 0 (-1) * a), fun out h i o a => Pot.pick (Pot.eUn out h i o a) (o + Pot.sg out (-1) 0 * a), fun out h i o a => Pot.eUn out h i o a⟩
/- the way of an activity with each pot, as a call of pot's takes it -/
def oF (k : Int) : Bool := decide (wF k < 0)
def oK (k : Int) : Bool := decide (wK k < 0)
def eK (C : Ch) (k x y z n : Int) : Int := if wK k = 0 then 0 else C.e (oK k) x y z n
def hK (C : Ch) (k x y z n : Int) : Int := if wK k = 0 then x else C.h (oK k) x y z n
def iK (C : Ch) (k x y z n : Int) : Int := if wK k = 0 then y else C.i (oK k) x y z n
def uK (C : Ch) (k x y z n : Int) : Int := if wK k = 0 then z else C.o (oK k) x y z n
/- the error of a call with an account, and the account -/
def mvE (C : Ch) (s : ByteArray) (a b c x y z : Int) (k : Int) (t : ByteArray) (n : Int) : Int :=
  if fitE s a b c x y z k t n = 0 then (if C.e (oF k) a b c n = 0 then eK C k x y z n else C.e (oF k) a b c n) else fitE s a b c x y z k t n
def both (e1 e2 : Int) : Int := if e1 = 0 then e2 else e1
def pickS (e : Int) (s : ByteArray) : ByteArray := if e = 0 then s else ⟨#[]⟩
theorem fit_cases (s : ByteArray) (a b c x y z : Int) (k : Int) (t : ByteArray) (n : Int) :
    (fitE s a b c x y z k t n = 0 ∧ accB s a b c x y z = true ∧ actB k t n = true ∧ t = s) ∨ fitE s a b c x y z k t n = 2 ∨ fitE s a b c x y z k t n = 60 := by
  unfold fitE
  by_cases h1 : accB s a b c x y z = true
  · rw [if_pos h1]
    by_cases h2 : (actB k t n && decide (t = s)) = true
    · rw [if_pos h2]
      rw [Bool.and_eq_true, decide_eq_true_eq] at h2
      exact Or.inl ⟨rfl, h1, h2.1, h2.2⟩
    · rw [if_neg h2]; exact Or.inr (Or.inr rfl)
  · rw [if_neg h1]; exact Or.inr (Or.inl rfl)
theorem acc_iff (s : ByteArray) (a b c x y z : Int) : accB s a b c x y z = true ↔ nameB s = true ∧ Pot.mayB a b c = true ∧ Pot.mayB x y z = true := by
  unfold accB; rw [Bool.and_eq_true, Bool.and_eq_true]; constructor
  · rintro ⟨⟨p, q⟩, r⟩; exact ⟨p, q, r⟩
  · rintro ⟨p, q, r⟩; exact ⟨⟨p, q⟩, r⟩
theorem wF_ne {k : Int} (h0 : 1 ≤ k) (h1 : k ≤ 4) : wF k ≠ 0 := by
  have : k = 1 ∨ k = 2 ∨ k = 3 ∨ k = 4 := by omega
  rcases this with rfl | rfl | rfl | rfl <;> simp [wF]
end Go.Proofs.Ythfbpilfdfploaa.Act
namespace Go.Proofs.Ythfbpilfdfploaa.Idn

theorem pathB_new (l : List Int) : ∀ seen, pathB seen l = true → ∀ o ∈ l, o ∉ seen := by
  induction l with
  | nil => intro _ _ o ho; simp at ho
  | cons a l ih =>
    intro seen h o ho
    rw [pathB] at h
    simp only [Bool.and_eq_true, Bool.not_eq_true', List.contains_eq_mem, decide_eq_false_iff_not] at h
    rcases List.mem_cons.1 ho with rfl | ho
    · exact h.1.2
    · exact fun x => ih _ h.2 o ho (List.mem_append_left _ x)
theorem pathB_nodup (l : List Int) : ∀ seen, pathB seen l = true → l.Nodup := by
  induction l with
  | nil => intro _ _; exact List.nodup_nil
  | cons a l ih =>
    intro seen h
    rw [pathB] at h
    simp only [Bool.and_eq_true] at h
    refine List.nodup_cons.2 ⟨fun ha => pathB_new l _ h.2 a ha (by simp), ih _ h.2⟩
theorem pathB_snoc (l : List Int) (o : Int) : ∀ seen, pathB seen (l ++ [o]) = true → pathB seen l = true ∧ o ∉ seen ∧ o ∉ l := by
  induction l with
  | nil =>
    intro seen h
    exact ⟨rfl, pathB_new _ _ h o (by simp), by simp⟩
  | cons a l ih =>
    intro seen h
    rw [List.cons_append, pathB] at h
    simp only [Bool.and_eq_true] at h
    obtain ⟨h1, h2, h3⟩ := ih _ h.2
    refine ⟨by rw [pathB, h1]; simp only [Bool.and_true, Bool.and_eq_true]; exact h.1, fun x => h2 (List.mem_append_left _ x), ?_⟩
    intro x
    rcases List.mem_cons.1 x with rfl | x
    · exact h2 (by simp)
    · exact h3 x
theorem path_snoc (r s o : Int) (L : List (Int × Int)) : path r (L ++ [(s, o)]) = path r L ++ [o] := by simp [path]
theorem may_snoc {r n s o : Int} {L : List (Int × Int)} (h : mayB r n (L ++ [(s, o)]) = true) : mayB r n L = true ∧ o ∉ path r L := by
  unfold mayB at h ⊢
  simp only [Bool.and_eq_true, decide_eq_true_eq, List.length_append, List.length_singleton] at h ⊢
  rw [path_snoc] at h
  obtain ⟨h1, _, h3⟩ := pathB_snoc _ _ _ h.2
  have h4 : stepsB L = true := by
    have := h.1.2
    unfold stepsB at this ⊢
    rw [List.all_append] at this
    simp only [Bool.and_eq_true] at this
    exact this.1
  exact ⟨⟨⟨⟨⟨h.1.1.1.1, h.1.1.1.2⟩, by omega⟩, h4⟩, h1⟩, h3⟩
theorem may_nodup {r n : Int} {L : List (Int × Int)} (h : mayB r n L = true) : (path r L).Nodup := by
  unfold mayB at h
  simp only [Bool.and_eq_true] at h
  exact pathB_nodup _ _ h.2
theorem nodup_get {l : List Int} (h : l.Nodup) {i j : Nat} (hi : i < l.length) (hj : j < l.length) (hne : i ≠ j) : (l[i] == l[j]) = false := by
  have hp := List.pairwise_iff_getElem.1 h
  rw [beq_eq_false_iff_ne]
  rcases Nat.lt_or_gt_of_ne hne with hl | hl
  · exact hp i j hi hj hl
  · exact fun e => hp j i hj hi hl e.symm
end Go.Proofs.Ythfbpilfdfploaa.Idn
namespace Go.Proofs.Ythfbpilfdfploaa

/- a note: kind, the id's root, number and hops, definition, reason -/
structure Nt where
  k : Int
  r : Int
  n : Int
  L : List (Int × Int)
  d : ByteArray
  y : Int
/- a frame: from, to, epoch, number, epoch and number of the answer, note -/
structure Fm where
  f : Int
  t : Int
  e : Int
  s : Int
  a : Int
  c : Int
  n : Nt
namespace Nt
def zeroN : Nt := ⟨0, 0, 0, [], ⟨#[]⟩, 0⟩
def zeroF : Fm := ⟨0, 0, 0, 0, 0, 0, zeroN⟩
def inB (n l h : Int) : Bool := decide (l ≤ n) && decide (n ≤ h)
def chB (x : Nt) : Bool := Idn.mayB x.r x.n x.L && decide (0 < x.L.length)
def dfB (x : Nt) : Bool := if x.k = 1 then Act.nameB x.d else decide (x.d = ⟨#[]⟩)
def wyB (x : Nt) : Bool := if x.k = 6 then inB x.y 1 9 else decide (x.y = 0)
def ntB (x : Nt) : Bool := inB x.k 1 7 && chB x && dfB x && wyB x
def ckE (x : Nt) : Int := if ntB x = true then 0 else 130
def upO (x : Nt) : Int := (Idn.path x.r x.L.dropLast).getLastD (-1)
def dnO (x : Nt) : Int := (Idn.path x.r x.L).getLastD (-1)
def ends1 (x : Nt) : Int := if ntB x = true then (if x.k ≤ 4 then upO x else dnO x) else -1
def ends2 (x : Nt) : Int := if ntB x = true then (if x.k ≤ 4 then dnO x else upO x) else -1
def emB (x : Nt) : Bool := decide (x.k = 0) && decide (x.r = 0) && decide (x.n = 0) && decide (x.L.length = 0) && decide (x.d = ⟨#[]⟩) && decide (x.y = 0)
def cnB (f : Fm) : Bool := inB f.e 1 1000000000 && inB f.s 0 1000000000 && inB f.a 0 1000000000 && inB f.c 0 1000000000
def fnB (f : Fm) : Bool := if f.s = 0 then emB f.n else ntB f.n && decide (ends1 f.n = f.f) && decide (ends2 f.n = f.t)
def frB (f : Fm) : Bool := inB f.f 0 15 && inB f.t 0 15 && decide (f.f ≠ f.t) && cnB f && fnB f
def frE (f : Fm) : Int := if frB f = true then 0 else 130

theorem inB_iff {n l h : Int} : inB n l h = true ↔ l ≤ n ∧ n ≤ h := by unfold inB; simp

theorem may_note {x : Nt} (h : ntB x = true) : (1 ≤ x.k ∧ x.k ≤ 7) ∧ Idn.mayB x.r x.n x.L = true ∧ 0 < x.L.length ∧ dfB x = true ∧ wyB x = true := by
  unfold ntB chB at h
  simp only [Bool.and_eq_true, decide_eq_true_eq, inB_iff] at h
  exact ⟨h.1.1.1, h.1.1.2.1, h.1.1.2.2, h.1.2, h.2⟩
theorem may_def {x : Nt} (h : dfB x = true) : x.d.size ≤ 16 := by
  unfold dfB at h
  split at h
  · exact (Act.name_pos h).2
  · have := of_decide_eq_true h
    rw [this]; decide
theorem may_why {x : Nt} (h : wyB x = true) : 0 ≤ x.y ∧ x.y ≤ 9 := by
  unfold wyB at h
  split at h
  · have := inB_iff.1 h; omega
  · have := of_decide_eq_true h; omega
theorem may_frame {f : Fm} (h : frB f = true) : (0 ≤ f.f ∧ f.f ≤ 15) ∧ (0 ≤ f.t ∧ f.t ≤ 15) ∧ f.f ≠ f.t ∧ (1 ≤ f.e ∧ f.e ≤ 1000000000) ∧ (0 ≤ f.s ∧ f.s ≤ 1000000000) ∧ (0 ≤ f.a ∧ f.a ≤ 1000000000) ∧ (0 ≤ f.c ∧ f.c ≤ 1000000000) ∧ fnB f = true := by
  unfold frB cnB at h
  simp only [Bool.and_eq_true, decide_eq_true_eq, inB_iff] at h
  exact ⟨h.1.1.1.1, h.1.1.1.2, h.1.1.2, h.1.2.1.1.1, h.1.2.1.1.2, h.1.2.1.2, h.1.2.2, h.2⟩
theorem em_zero {x : Nt} (h : emB x = true) : x = zeroN := by
  unfold emB at h
  simp only [Bool.and_eq_true, decide_eq_true_eq] at h
  obtain ⟨k, r, n, L, d, y⟩ := x
  simp only at h
  obtain ⟨⟨⟨⟨⟨rfl, rfl⟩, rfl⟩, hl⟩, rfl⟩, rfl⟩ := h
  rw [List.length_eq_zero_iff.1 hl]; rfl
theorem fn_note {f : Fm} (h : fnB f = true) (hs : ¬ f.s = 0) : ntB f.n = true ∧ ends1 f.n = f.f ∧ ends2 f.n = f.t := by
  unfold fnB at h
  rw [if_neg hs] at h
  simp only [Bool.and_eq_true, decide_eq_true_eq] at h
  exact ⟨h.1.1, h.1.2, h.2⟩
end Nt
end Go.Proofs.Ythfbpilfdfploaa
namespace Go.Proofs.Ythfbpilfdfploaa.Ox
variable {α : Type}

/- an item: its number, when it is due, how often it was sent, its note -/
structure It (α : Type) where
  q : Int
  d : Int
  s : Int
  n : α
/- an item by itself -/
def one (ok : α → Bool) (x : It α) : Bool := decide (1 ≤ x.q ∧ x.q ≤ 1000000000) && ok x.n && decide (0 ≤ x.d ∧ x.d ≤ 1000000016) && decide (0 ≤ x.s ∧ x.s ≤ 1000000)
theorem one_iff (ok : α → Bool) (x : It α) : one ok x = true ↔ (1 ≤ x.q ∧ x.q ≤ 1000000000) ∧ ok x.n = true ∧ (0 ≤ x.d ∧ x.d ≤ 1000000016) ∧ (0 ≤ x.s ∧ x.s ≤ 1000000) := by
  simp only [one, Bool.and_eq_true, decide_eq_true_eq]
  constructor
  · rintro ⟨⟨⟨h1, h2⟩, h3⟩, h4⟩; exact ⟨h1, h2, h3, h4⟩
  · rintro ⟨h1, h2, h3, h4⟩; exact ⟨⟨⟨h1, h2⟩, h3⟩, h4⟩
/- is a note among items? -/
def among [DecidableEq α] (l : List (It α)) (n : α) : Bool := l.any (fun x => decide (x.n = n))
theorem among_iff [DecidableEq α] (l : List (It α)) (n : α) : among l n = true ↔ ∃ x ∈ l, x.n = n := by simp [among]
theorem among_not [DecidableEq α] {l : List (It α)} {n : α} (h : among l n = false) : ∀ x ∈ l, x.n ≠ n := by
  intro x hx e
  have := (among_iff l n).2 ⟨x, hx, e⟩
  rw [h] at this; cases this
/- the rows that may be: each above the one ahead, no note twice -/
def Apart (l : List (It α)) : Prop := l.Pairwise (fun a b => a.q < b.q ∧ a.n ≠ b.n)
structure May (ok : α → Bool) (l : List (It α)) : Prop where
  len : l.length ≤ 12
  ap : Apart l
  all : ∀ x ∈ l, one ok x = true
/- the same, place by place: item i against the ones ahead -/
def at_ [DecidableEq α] (ok : α → Bool) (l : List (It α)) (i : Nat) : Bool :=
  match l[i]? with
  | none => true
  | some x => one ok x && (decide (i = 0) || (match l[i - 1]? with | none => true | some y => decide (y.q < x.q))) && !among (l.take i) x.n
theorem may_at [DecidableEq α] {ok : α → Bool} {l : List (It α)} (hl : l.length ≤ 12) (h : ∀ i, i < l.length → at_ ok l i = true) : May ok l := by
  have hi : ∀ (i : Nat) (hi : i < l.length), one ok l[i] = true ∧ (∀ k, k + 1 = i → ∀ hk : k < l.length, l[k].q < l[i].q) ∧ among (l.take i) l[i].n = false := by
    intro i hi
    have := h i hi
    unfold at_ at this
    rw [List.getElem?_eq_getElem hi] at this
    simp only [Bool.and_eq_true, Bool.or_eq_true, decide_eq_true_eq, Bool.not_eq_true'] at this
    obtain ⟨⟨h1, h2⟩, h3⟩ := this
    refine ⟨h1, fun k hk hkl => ?_, h3⟩
    subst hk
    rcases h2 with h2 | h2
    · omega
    · rw [show k + 1 - 1 = k from rfl, List.getElem?_eq_getElem hkl] at h2
      simpa using h2
  have rise : ∀ (j i : Nat) (hj : j < l.length) (hij : i < j), (l[i]'(by omega)).q < l[j].q := by
    intro j
    induction j with
    | zero => intro i _ h; omega
    | succ j ih =>
      intro i hj hij
      have h1 := (hi (j + 1) hj).2.1 j rfl (by omega)
      by_cases e : i = j
      · subst e; exact h1
      · have := ih i (by omega) (by omega); omega
  refine ⟨hl, ?_, fun x hx => ?_⟩
  · rw [Apart, List.pairwise_iff_getElem]
    intro i j hi' hj hij
    refine ⟨rise j i hj hij, fun e => ?_⟩
    have := (hi j hj).2.2
    exact among_not this l[i] (List.mem_take_iff_getElem.2 ⟨i, by omega, rfl⟩) e
  · obtain ⟨i, hi', rfl⟩ := List.getElem_of_mem hx
    exact (hi i hi').1
theorem May.at_ [DecidableEq α] {ok : α → Bool} {l : List (It α)} (h : May ok l) (i : Nat) (hi : i < l.length) : Ox.at_ ok l i = true := by
  have hp := List.pairwise_iff_getElem.1 h.ap
  unfold Ox.at_
  rw [List.getElem?_eq_getElem hi]
  simp only [Bool.and_eq_true, Bool.or_eq_true, decide_eq_true_eq, Bool.not_eq_true']
  refine ⟨⟨h.all _ (List.getElem_mem hi), ?_⟩, ?_⟩
  · by_cases e : i = 0
    · exact Or.inl e
    · right
      rw [List.getElem?_eq_getElem (show i - 1 < l.length by omega)]
      exact decide_eq_true (hp (i - 1) i (by omega) hi (by omega)).1
  · cases e : among (l.take i) l[i].n with
    | false => rfl
    | true =>
      obtain ⟨x, hx, hn⟩ := (among_iff _ _).1 e
      obtain ⟨k, hk, rfl⟩ := List.mem_take_iff_getElem.1 hx
      exact absurd hn (hp k i (by omega) hi (by omega)).2
def mayB [DecidableEq α] (ok : α → Bool) (l : List (It α)) : Bool := decide (l.length ≤ 12) && (List.range l.length).all (fun i => Ox.at_ ok l i)
theorem mayB_iff [DecidableEq α] (ok : α → Bool) (l : List (It α)) : mayB ok l = true ↔ May ok l := by
  simp only [mayB, Bool.and_eq_true, decide_eq_true_eq, List.all_eq_true, List.mem_range]
  exact ⟨fun ⟨h1, h2⟩ => may_at h1 h2, fun h => ⟨h.len, fun i hi => h.at_ i hi⟩⟩
/- where it is not, there is a first place -/
theorem mayB_no [DecidableEq α] {ok : α → Bool} {l : List (It α)} {i : Nat} (hi : i < l.length) (h : Ox.at_ ok l i = false) : mayB ok l = false := by
  cases e : mayB ok l with
  | false => rfl
  | true => have := ((mayB_iff ok l).1 e).at_ i hi; rw [h] at this; cases this
/- the next number -/
def next (l : List (It α)) (from_ : Int) : Int :=
  match l.getLast? with
  | none => from_
  | some x => if from_ ≤ x.q then x.q + 1 else from_
/- Push: note by note -/
def pushF [DecidableEq α] (ok : α → Bool) (from_ now : Int) : List (It α) → List α → List (It α) × Int
  | l, [] => (l, 0)
  | l, n :: r =>
    if ok n = true then
      (if among l n = true then pushF ok from_ now l r
      else if l.length = 12 then ([], 190)
      else if 1000000000 < next l from_ then ([], 180)
      else pushF ok from_ now (l ++ [⟨next l from_, now, 0, n⟩]) r)
    else ([], 130)
def tmB (n : Int) : Bool := decide (0 ≤ n ∧ n ≤ 1000000000)
def push [DecidableEq α] (ok : α → Bool) (l : List (It α)) (from_ now : Int) (ns : List α) : List (It α) × Int :=
  if mayB ok l = true ∧ tmB now = true ∧ 1 ≤ from_ ∧ from_ ≤ 1000000001 then pushF ok from_ now l ns else ([], 2)
theorem next_above {l : List (It α)} (h : Apart l) (from_ : Int) : ∀ x ∈ l, x.q < next l from_ := by
  intro x hx
  unfold next
  cases e : l.getLast? with
  | none => rw [List.getLast?_eq_none_iff.1 e] at hx; cases hx
  | some y =>
    have hle : x.q ≤ y.q := by
      obtain ⟨i, hi, rfl⟩ := List.getElem_of_mem hx
      have hy : y = l[l.length - 1]'(by omega) := by
        rw [List.getLast?_eq_getElem?, List.getElem?_eq_getElem (by omega)] at e
        cases e; rfl
      by_cases c : i = l.length - 1
      · rw [hy]; simp [c]
      · have := (List.pairwise_iff_getElem.1 h i (l.length - 1) hi (by omega) (by omega)).1
        rw [hy]; omega
    simp only
    split <;> omega
theorem next_ge {l : List (It α)} (from_ : Int) : from_ ≤ next l from_ := by
  unfold next
  split
  · omega
  · split <;> omega
theorem may_snoc [DecidableEq α] {ok : α → Bool} {l : List (It α)} (h : May ok l) {n : α} {from_ now : Int} (hn : ok n = true) (ha : among l n = false) (hl : l.length ≠ 12) (hx : next l from_ ≤ 1000000000) (hf : 1 ≤ from_) (ht : tmB now = true) : May ok (l ++ [⟨next l from_, now, 0, n⟩]) := by
  have h12 := h.len
  have ht' := of_decide_eq_true ht
  have hg := next_ge (l := l) from_
  refine ⟨by simp; omega, List.pairwise_append.2 ⟨h.ap, by simp, fun a ha' b hb => ?_⟩, fun x hx' => ?_⟩
  · rw [List.mem_singleton] at hb
    subst hb
    exact ⟨next_above h.ap from_ a ha', among_not ha a ha'⟩
  · rcases List.mem_append.1 hx' with hx' | hx'
    · exact h.all x hx'
    · rw [List.mem_singleton] at hx'
      subst hx'
      exact (one_iff ok _).2 ⟨⟨by show 1 ≤ next l from_; omega, hx⟩, hn, ⟨ht'.1, by show now ≤ 1000000016; omega⟩, by simp⟩
theorem pushF_may [DecidableEq α] {ok : α → Bool} {from_ now : Int} (hf : 1 ≤ from_) (ht : tmB now = true) : ∀ (ns : List α) (l : List (It α)), May ok l → May ok (pushF ok from_ now l ns).1
  | [], _, h => h
  | n :: r, l, h => by
    have hno : May ok ([] : List (It α)) := ⟨by simp, List.Pairwise.nil, by simp⟩
    unfold pushF
    split
    · rename_i hn
      split
      · exact pushF_may hf ht r l h
      · rename_i ha
        split
        · exact hno
        · rename_i hl
          split
          · exact hno
          · rename_i hx
            exact pushF_may hf ht r _ (may_snoc h hn (by simpa using ha) hl (by omega) hf ht)
    · exact hno
def hasB [DecidableEq α] (ok : α → Bool) (l : List (It α)) (n : α) : Bool := mayB ok l && among l n
/- Answered, Anew, Due -/
def ans [DecidableEq α] (ok : α → Bool) (l : List (It α)) (low : Int) : List (It α) := if mayB ok l = true then l.filter (fun x => decide (low < x.q)) else []
def num (now : Int) : Int → List (It α) → List (It α)
  | _, [] => []
  | k, x :: r => ⟨k, now, 0, x.n⟩ :: num now (k + 1) r
def anew [DecidableEq α] (ok : α → Bool) (l : List (It α)) (now : Int) : List (It α) := if mayB ok l = true ∧ tmB now = true then num now 1 l else []
def del (n : Int) : Int := if n < 1 then 1 else if n = 1 then 2 else if n = 2 then 4 else 8
def more (s : Int) : Int := if s < 1000000 then s + 1 else s
def tick (now : Int) (x : It α) : It α := if x.d ≤ now then ⟨x.q, now + del (more x.s), more x.s, x.n⟩ else x
def dueL [DecidableEq α] (ok : α → Bool) (l : List (It α)) (now : Int) : List (It α) := if mayB ok l = true ∧ tmB now = true then l.map (tick now) else []
def dueD [DecidableEq α] (ok : α → Bool) (l : List (It α)) (now : Int) : List (It α) := if mayB ok l = true ∧ tmB now = true then (l.filter (fun x => decide (x.d ≤ now))).map (tick now) else []
theorem tick_q (now : Int) (x : It α) : (tick now x).q = x.q := by unfold tick; split <;> rfl
theorem tick_n (now : Int) (x : It α) : (tick now x).n = x.n := by unfold tick; split <;> rfl
theorem del_le (n : Int) : 1 ≤ del n ∧ del n ≤ 8 := by unfold del; repeat' split <;> omega
theorem tick_one {ok : α → Bool} {now : Int} (ht : tmB now = true) {x : It α} (h : one ok x = true) : one ok (tick now x) = true := by
  obtain ⟨h1, h2, h3, h4⟩ := (one_iff ok x).1 h
  have ht' := of_decide_eq_true ht
  unfold tick
  split
  · refine (one_iff ok _).2 ⟨h1, h2, ?_, ?_⟩
    · have := del_le (more x.s)
      show 0 ≤ now + del (more x.s) ∧ now + del (more x.s) ≤ 1000000016
      omega
    · show 0 ≤ more x.s ∧ more x.s ≤ 1000000
      unfold more; split <;> omega
  · exact h
theorem due_may {ok : α → Bool} {l : List (It α)} {now : Int} (h : May ok l) (ht : tmB now = true) : May ok (l.map (tick now)) := by
  refine ⟨by simpa using h.len, ?_, fun x hx => ?_⟩
  · rw [Apart, List.pairwise_map]
    exact List.Pairwise.imp (fun {a b} hab => by rw [tick_q, tick_q, tick_n, tick_n]; exact hab) h.ap
  · obtain ⟨y, hy, rfl⟩ := List.mem_map.1 hx
    exact tick_one ht (h.all y hy)
theorem ans_may {ok : α → Bool} {l : List (It α)} (h : May ok l) (low : Int) : May ok (l.filter (fun x => decide (low < x.q))) :=
  ⟨Nat.le_trans (List.length_filter_le _ _) h.len, List.Pairwise.filter _ h.ap, fun x hx => h.all x (List.mem_filter.1 hx).1⟩
theorem num_len (now : Int) : ∀ (l : List (It α)) (k : Int), (num now k l).length = l.length
  | [], _ => rfl
  | _ :: r, k => by simp [num, num_len now r]
theorem num_mem (now : Int) : ∀ (l : List (It α)) (k : Int) (y : It α), y ∈ num now k l → k ≤ y.q ∧ y.q < k + l.length ∧ y.d = now ∧ y.s = 0 ∧ ∃ x ∈ l, x.n = y.n
  | [], _, y, h => by cases h
  | x :: r, k, y, h => by
    rcases List.mem_cons.1 h with rfl | h
    · exact ⟨Int.le_refl _, by simp; omega, rfl, rfl, x, by simp, rfl⟩
    · obtain ⟨h1, h2, h3, h4, z, h5, h6⟩ := num_mem now r (k + 1) y h
      exact ⟨by omega, by simp; omega, h3, h4, z, by simp [h5], h6⟩
theorem num_at (now : Int) : ∀ (l : List (It α)) (k : Int) (i : Nat) (hi : i < l.length), (num now k l)[i]'(by rw [num_len]; exact hi) = ⟨k + i, now, 0, l[i].n⟩
  | x :: r, k, 0, _ => by simp [num]
  | x :: r, k, i + 1, hi => by
    have h1 : i < r.length := by simpa using hi
    have := num_at now r (k + 1) i h1
    simp only [num, List.getElem_cons_succ]
    rw [this, show k + 1 + (i : Int) = k + ((i + 1 : Nat) : Int) by omega]
theorem num_ap (now : Int) : ∀ (l : List (It α)) (k : Int), Apart l → Apart (num now k l)
  | [], _, _ => List.Pairwise.nil
  | x :: r, k, h => by
    obtain ⟨h1, h2⟩ := List.pairwise_cons.1 h
    refine List.pairwise_cons.2 ⟨fun y hy => ?_, num_ap now r (k + 1) h2⟩
    obtain ⟨q1, _, _, _, z, hz, hn⟩ := num_mem now r (k + 1) y hy
    exact ⟨by show k < y.q; omega, fun e => (h1 z hz).2 (e.trans hn.symm)⟩
theorem anew_may {ok : α → Bool} {l : List (It α)} {now : Int} (h : May ok l) (ht : tmB now = true) : May ok (num now 1 l) := by
  have h12 := h.len
  have ht' := of_decide_eq_true ht
  refine ⟨by rw [num_len]; exact h12, num_ap now l 1 h.ap, fun y hy => ?_⟩
  obtain ⟨q1, q2, q3, q4, z, hz, hn⟩ := num_mem now l 1 y hy
  refine (one_iff ok y).2 ⟨⟨q1, by omega⟩, ?_, ⟨by omega, by omega⟩, ⟨by omega, by omega⟩⟩
  rw [← hn]
  exact ((one_iff ok z).1 (h.all z hz)).2.1
end Go.Proofs.Ythfbpilfdfploaa.Ox
namespace Go.Proofs.Ythfbpilfdfploaa
open Go.RowKit

variable {Z : Nat → Prop}
/- a note as plain data that can be compared -/
abbrev Nx := (Int × Int × Int) × List (Int × Int) × ByteArray × Int
def pk (x : Nt) : Nx := ((x.k, x.r, x.n), x.L, x.d, x.y)
def okN (p : Nx) : Bool := Nt.ntB ⟨p.1.1, p.1.2.1, p.1.2.2, p.2.1, p.2.2.1, p.2.2.2⟩
theorem okN_pk (x : Nt) : okN (pk x) = Nt.ntB x := rfl
theorem pk_inj {x y : Nt} (h : pk x = pk y) : x = y := by
  obtain ⟨a, b, c, d, e, f⟩ := x
  obtain ⟨a2, b2, c2, d2, e2, f2⟩ := y
  simp only [pk, Prod.mk.injEq] at h
  obtain ⟨⟨rfl, rfl, rfl⟩, rfl, rfl, rfl⟩ := h
  rfl
theorem nt_small {x : Nt} (h : Nt.ntB x = true) : x.L.length ≤ 4 ∧ x.d.size ≤ 16 := by
  obtain ⟨_, h2, _, h4, _⟩ := Nt.may_note h
  rw [Idn.may_hops] at h2
  simp only [Bool.and_eq_true, decide_eq_true_eq] at h2
  exact ⟨h2.1.1.1.2, Nt.may_def h4⟩

/- a note in memory: what it is, where its hops lie -/
structure Mn where
  x : Nt
  ad : Option Addr
  cap : Nat
abbrev Mn.v (m : Mn) : Value := .agg #[.int .i64 m.x.k, .int .i64 m.x.r, .int .i64 m.x.n, .slice m.ad m.x.L.length m.cap, .string m.x.d, .int .i64 m.x.y]
def nC (m : Mn) : List Value := [.int .i64 m.x.k, .int .i64 m.x.r, .int .i64 m.x.n, .slice m.ad m.x.L.length m.cap, .string m.x.d, .int .i64 m.x.y]
theorem nC_len (m : Mn) : (nC m).length = 6 := rfl
structure MnAt (Z : Nat → Prop) (w : World) (m : Mn) : Prop where
  hp : HopsAt w m.ad m.x.L
  hl : m.x.L.length ≤ 9223372036854775807
  hc : m.x.L.length ≤ m.cap
  hd : m.x.d.size ≤ 9223372036854775807
  hz : m.x.L ≠ [] → ∀ a, m.ad = some a → Z a.block
/- what holds of each new block -/
def Frs (Z : Nat → Prop) (w : World) : Prop := ∀ b, w.heap.size ≤ b → Z b
theorem Frs.gr {w w' : World} (h : Frs Z w) (g : Gr w w') : Frs Z w' := fun b hb => h b (Nat.le_trans g.size hb)
/- nothing is asked of blocks -/
abbrev Any : Nat → Prop := fun _ => True
theorem Frs.any (w : World) : Frs Any w := fun _ _ => trivial
theorem MnAt.gr {w w' : World} {m : Mn} (h : MnAt Z w m) (g : Gr w w') : MnAt Z w' m := ⟨h.hp.gr g, h.hl, h.hc, h.hd, h.hz⟩
abbrev NtsRow := RowAt nC
structure NtsAt (Z : Nat → Prop) (w : World) (ad : Option Addr) (Q : List Mn) : Prop where
  row : NtsRow w ad Q
  nt : ∀ m ∈ Q, MnAt Z w m
theorem NtsAt.gr {w w' : World} {ad : Option Addr} {Q : List Mn} (h : NtsAt Z w ad Q) (g : Gr w w') : NtsAt Z w' ad Q := ⟨h.row.gr g, fun m hm => (h.nt m hm).gr g⟩
theorem NtsAt.nil {w : World} {ad : Option Addr} : NtsAt Z w ad [] := ⟨RowAt.nil, by simp⟩
theorem NtsRow.at {w : World} {ad : Option Addr} {D : List Mn} (h : NtsRow w ad D) (k : Nat) (hk : k < D.length) : ∃ b off, ad = some ⟨b, off, none⟩ ∧ b < w.heap.size ∧
    w.cell? ⟨b, off + k * 6, none⟩ = some (.int .i64 D[k].x.k) ∧ w.cell? ⟨b, off + k * 6 + 1, none⟩ = some (.int .i64 D[k].x.r) ∧ w.cell? ⟨b, off + k * 6 + 2, none⟩ = some (.int .i64 D[k].x.n) ∧
    w.cell? ⟨b, off + k * 6 + 3, none⟩ = some (.slice D[k].ad D[k].x.L.length D[k].cap) ∧ w.cell? ⟨b, off + k * 6 + 4, none⟩ = some (.string D[k].x.d) ∧ w.cell? ⟨b, off + k * 6 + 5, none⟩ = some (.int .i64 D[k].x.y) := by
  have g := fun i hi => flat_get nC_len D k hk i hi
  obtain ⟨b, off, rfl, hb, c0⟩ := h _ _ (g 0 (by omega))
  obtain ⟨_, _, e, _, c1⟩ := h _ _ (g 1 (by omega)); cases e
  obtain ⟨_, _, e, _, c2⟩ := h _ _ (g 2 (by omega)); cases e
  obtain ⟨_, _, e, _, c3⟩ := h _ _ (g 3 (by omega)); cases e
  obtain ⟨_, _, e, _, c4⟩ := h _ _ (g 4 (by omega)); cases e
  obtain ⟨_, _, e, _, c5⟩ := h _ _ (g 5 (by omega)); cases e
  rw [← Nat.add_assoc] at c1 c2 c3 c4 c5
  exact ⟨b, off, rfl, hb, c0, c1, c2, c3, c4, c5⟩

/- an item in memory -/
structure Mi where
  q : Int
  d : Int
  s : Int
  m : Mn
abbrev Mi.v (x : Mi) : Value := .agg #[.int .i64 x.q, .int .i64 x.d, .int .i64 x.s, .int .i64 x.m.x.k, .int .i64 x.m.x.r, .int .i64 x.m.x.n, .slice x.m.ad x.m.x.L.length x.m.cap, .string x.m.x.d, .int .i64 x.m.x.y]
def iC (x : Mi) : List Value := [.int .i64 x.q, .int .i64 x.d, .int .i64 x.s, .int .i64 x.m.x.k, .int .i64 x.m.x.r, .int .i64 x.m.x.n, .slice x.m.ad x.m.x.L.length x.m.cap, .string x.m.x.d, .int .i64 x.m.x.y]
theorem iC_len (x : Mi) : (iC x).length = 9 := rfl
def Mi.it (x : Mi) : Ox.It Nx := ⟨x.q, x.d, x.s, pk x.m.x⟩
def its (D : List Mi) : List (Ox.It Nx) := D.map Mi.it
theorem its_len (D : List Mi) : (its D).length = D.length := by simp [its]
theorem its_get (D : List Mi) (j : Nat) (h : j < D.length) : (its D)[j]'(by rw [its_len]; exact h) = D[j].it := by simp [its]
theorem its_get? (D : List Mi) (j : Nat) (h : j < D.length) : (its D)[j]? = some D[j].it := by simp [its, h]
theorem its_take (D : List Mi) (j : Nat) : its (D.take j) = (its D).take j := by simp [its, List.map_take]
theorem its_app (D E : List Mi) : its (D ++ E) = its D ++ its E := by simp [its]
def pks (Q : List Mn) : List Nx := Q.map fun m => pk m.x
theorem pks_len (Q : List Mn) : (pks Q).length = Q.length := by simp [pks]
abbrev ItsRow := RowAt iC
structure ItsAt (Z : Nat → Prop) (w : World) (ad : Option Addr) (D : List Mi) : Prop where
  row : ItsRow w ad D
  nt : ∀ x ∈ D, MnAt Z w x.m
theorem ItsAt.gr {w w' : World} {ad : Option Addr} {D : List Mi} (h : ItsAt Z w ad D) (g : Gr w w') : ItsAt Z w' ad D := ⟨h.row.gr g, fun m hm => (h.nt m hm).gr g⟩
theorem ItsAt.nil {w : World} {ad : Option Addr} : ItsAt Z w ad [] := ⟨RowAt.nil, by simp⟩
theorem ItsRow.at {w : World} {ad : Option Addr} {D : List Mi} (h : ItsRow w ad D) (k : Nat) (hk : k < D.length) : ∃ b off, ad = some ⟨b, off, none⟩ ∧ b < w.heap.size ∧
    w.cell? ⟨b, off + k * 9, none⟩ = some (.int .i64 D[k].q) ∧ w.cell? ⟨b, off + k * 9 + 1, none⟩ = some (.int .i64 D[k].d) ∧ w.cell? ⟨b, off + k * 9 + 2, none⟩ = some (.int .i64 D[k].s) ∧
    w.cell? ⟨b, off + k * 9 + 3, none⟩ = some (.int .i64 D[k].m.x.k) ∧ w.cell? ⟨b, off + k * 9 + 4, none⟩ = some (.int .i64 D[k].m.x.r) ∧ w.cell? ⟨b, off + k * 9 + 5, none⟩ = some (.int .i64 D[k].m.x.n) ∧
    w.cell? ⟨b, off + k * 9 + 6, none⟩ = some (.slice D[k].m.ad D[k].m.x.L.length D[k].m.cap) ∧ w.cell? ⟨b, off + k * 9 + 7, none⟩ = some (.string D[k].m.x.d) ∧ w.cell? ⟨b, off + k * 9 + 8, none⟩ = some (.int .i64 D[k].m.x.y) := by
  have g := fun i hi => flat_get iC_len D k hk i hi
  obtain ⟨b, off, rfl, hb, c0⟩ := h _ _ (g 0 (by omega))
  obtain ⟨_, _, e, _, c1⟩ := h _ _ (g 1 (by omega)); cases e
  obtain ⟨_, _, e, _, c2⟩ := h _ _ (g 2 (by omega)); cases e
  obtain ⟨_, _, e, _, c3⟩ := h _ _ (g 3 (by omega)); cases e
  obtain ⟨_, _, e, _, c4⟩ := h _ _ (g 4 (by omega)); cases e
  obtain ⟨_, _, e, _, c5⟩ := h _ _ (g 5 (by omega)); cases e
  obtain ⟨_, _, e, _, c6⟩ := h _ _ (g 6 (by omega)); cases e
  obtain ⟨_, _, e, _, c7⟩ := h _ _ (g 7 (by omega)); cases e
  obtain ⟨_, _, e, _, c8⟩ := h _ _ (g 8 (by omega)); cases e
  rw [← Nat.add_assoc] at c1 c2 c3 c4 c5 c6 c7 c8
  exact ⟨b, off, rfl, hb, c0, c1, c2, c3, c4, c5, c6, c7, c8⟩
theorem i_one (D : List Mi) : ∀ u ∈ D.flatMap iC, u.oneCell' = true := by
  intro u hu
  rw [List.mem_flatMap] at hu
  obtain ⟨h, _, hu⟩ := hu
  simp [iC] at hu
  rcases hu with rfl | rfl | rfl | rfl | rfl | rfl | rfl | rfl | rfl <;> rfl
theorem infoItem : (Try.prog.info? 79).map (fun i => (i.zero, i.size, i.bytes)) = some (some (.agg #[.int .i64 0, .int .i64 0, .int .i64 0, .int .i64 0, .int .i64 0, .int .i64 0, .slice none 0 0, .string ⟨#[]⟩, .int .i64 0]), 9, 96) := by kernel_rfl
/- an item's cells in a block of their own -/
theorem i_new (w : World) (x : Mi) (t : TypeId) : ∀ j u, ([x].flatMap iC)[j]? = some u → (w.alloc (.cells (iC x).toArray t)).cell? ((⟨w.heap.size, 0, none⟩ : Addr).add j) = some u := by
  intro j u h
  rw [Addr.add_lit, Nat.zero_add, cell_of_row _ w.heap.size j _ _ _ (heap_alloc_new w _)]
  simpa using h
theorem RowAt.cut {α : Type} {f : α → List Value} {w : World} {ad : Option Addr} {L : List α} (h : RowAt f w ad L) (k : Nat) : RowAt f w ad (L.take k) := by
  intro j u hu
  refine h j u ?_
  have e : L.flatMap f = (L.take k).flatMap f ++ (L.drop k).flatMap f := by rw [← List.flatMap_append, List.take_append_drop]
  have hj : j < ((L.take k).flatMap f).length := (List.getElem?_eq_some_iff.1 hu).1
  rw [e, List.getElem?_append_left hj]; exact hu
theorem ItsAt.cut {w : World} {ad : Option Addr} {D : List Mi} (h : ItsAt Z w ad D) (k : Nat) : ItsAt Z w ad (D.take k) := ⟨h.row.cut k, fun x hx => h.nt x (List.mem_of_mem_take hx)⟩

/- a row that may be turned: hops lie in no turned block -/
theorem hops_kept {w w' : World} {ad : Option Addr} {L : List (Int × Int)} {r : Option Nat} (h : HopsAt w ad L) (g : w.grownBy w' r) (hr : L ≠ [] → ∀ a, ad = some a → r ≠ some a.block) : HopsAt w' ad L := by
  intro j hj
  obtain ⟨b, off, e, hb, h1, h2⟩ := h j hj
  have hk : some b ≠ r := fun k => hr (fun hn => by rw [hn] at hj; simp at hj) _ e k.symm
  exact ⟨b, off, e, Nat.lt_of_lt_of_le hb g.size, (World.cell?_of_block (w := w) (g.block b hb hk)).trans h1, (World.cell?_of_block (w := w) (g.block b hb hk)).trans h2⟩
theorem hops_lt {w : World} {ad : Option Addr} {L : List (Int × Int)} (h : HopsAt w ad L) (hn : L ≠ []) {a : Addr} (e : ad = some a) : a.block < w.heap.size := by
  cases L with
  | nil => exact absurd rfl hn
  | cons s t =>
    obtain ⟨b, off, e', hb, _⟩ := h 0 (by simp)
    rw [e] at e'; cases e'
    exact hb
/- a row of items that the call owns -/
structure Bxs (Z : Nat → Prop) (w : World) (base : Nat) (v : Value) (D : List Mi) : Prop where
  own : w.ownsRow base 79 9 v D.length (D.flatMap iC)
  nt : ∀ x ∈ D, MnAt Z w x.m
  ap : ∀ x ∈ D, x.m.x.L ≠ [] → ∀ a, x.m.ad = some a → v.ownBlock ≠ some a.block
theorem own_gr3 {w w' : World} {base : Nat} {e : TypeId} {size n : Nat} {v : Value} {xs : List Value} (h : w.ownsRow base e size v n xs) (g : Gr w w') : w'.ownsRow base e size v n xs := h.kept g.grownBy (own_or v)
theorem Bxs.nil (w : World) (base : Nat) : Bxs Z w base (.slice none 0 0) [] := ⟨World.ownsRow_nil _ _ _ _, by simp, by simp⟩
theorem Bxs.gr {w w' : World} {base : Nat} {v : Value} {D : List Mi} (h : Bxs Z w base v D) (g : Gr w w') : Bxs Z w' base v D := ⟨own_gr3 h.own g, fun x hx => (h.nt x hx).gr g, h.ap⟩
theorem Bxs.low {w : World} {base base' : Nat} {v : Value} {D : List Mi} (h : Bxs Z w base v D) (hb : base' ≤ base) : Bxs Z w base' v D := ⟨own_low h.own hb, h.nt, h.ap⟩
theorem Bxs.at {w : World} {base : Nat} {v : Value} {D : List Mi} (h : Bxs Z w base v D) : ∃ ad cap, v = .slice ad D.length cap ∧ D.length ≤ cap ∧ cap ≤ 9223372036854775807 ∧ ItsAt Z w ad D ∧ (∀ a, ad = some a → base ≤ a.block) := by
  obtain ⟨ad, cap, e, h1, h2, h3, h4, _⟩ := own_row h.own
  exact ⟨ad, cap, e, h1, h2, ⟨h3, h.nt⟩, h4⟩
/- one more -/
theorem Bxs.more {w w' : World} {base : Nat} {v v' : Value} {D : List Mi} {x : Mi} (h : Bxs Z w base v D) (hx : MnAt Z w x.m) (hxa : x.m.x.L ≠ [] → ∀ a, x.m.ad = some a → v.ownBlock ≠ some a.block)
    (ho : w'.ownsRow base 79 9 v' (D.length + 1) (D.flatMap iC ++ [x].flatMap iC)) (g : w.grownBy w' v.ownBlock) (hat : v'.ownBlock = v.ownBlock ∨ v'.ownBlock = some w.heap.size) : Bxs Z w' base v' (D ++ [x]) := by
  have key : ∀ y : Mi, MnAt Z w y.m → (y.m.x.L ≠ [] → ∀ a, y.m.ad = some a → v.ownBlock ≠ some a.block) → MnAt Z w' y.m ∧ (y.m.x.L ≠ [] → ∀ a, y.m.ad = some a → v'.ownBlock ≠ some a.block) := by
    intro y hy ha
    refine ⟨⟨hops_kept hy.hp g ha, hy.hl, hy.hc, hy.hd, hy.hz⟩, fun hn a e => ?_⟩
    rcases hat with e1 | e1
    · rw [e1]; exact ha hn a e
    · rw [e1]
      have := hops_lt hy.hp hn e
      intro k; have := Option.some.inj k; omega
  refine ⟨?_, fun y hy => ?_, fun y hy => ?_⟩
  · rw [List.flatMap_append, List.length_append]; exact ho
  · rcases List.mem_append.1 hy with hy | hy
    · exact (key y (h.nt y hy) (h.ap y hy)).1
    · rw [List.mem_singleton] at hy; subst hy; exact (key y hx hxa).1
  · rcases List.mem_append.1 hy with hy | hy
    · exact (key y (h.nt y hy) (h.ap y hy)).2
    · rw [List.mem_singleton] at hy; subst hy; exact (key y hx hxa).2
theorem Bxs.grown {a w w' : World} {base : Nat} {v : Value} {D : List Mi} (h : Bxs Z w base v D) (g : Gr a w) (k : w.grownBy w' v.ownBlock) (hb : a.heap.size ≤ base) : Gr a w' :=
  g.grown k (fun b e => by have := (h.own.lt b e).1; omega)
theorem own_far3 {w : World} {base : Nat} {e : TypeId} {size n : Nat} {v : Value} {xs : List Value} (h : w.ownsRow base e size v n xs) (p : Addr) (u : Value) (hp : v.ownBlock ≠ some p.block) : (w.setCell p u).ownsRow base e size v n xs :=
  h.kept (row := some p.block) ⟨rfl, rfl, rfl, by simp [World.setCell], fun k _ hk => Below.heap_setCell _ _ _ _ (fun e => hk (by rw [e]))⟩ (Or.inr hp)
/- of blocks that were there something else is asked -/
theorem MnAt.other {Y : Nat → Prop} {w : World} {m : Mn} (h : MnAt Z w m) (hy : ∀ b, b < w.heap.size → Y b) : MnAt Y w m := ⟨h.hp, h.hl, h.hc, h.hd, fun hn _ e => hy _ (hops_lt h.hp hn e)⟩
theorem ItsAt.other {Y : Nat → Prop} {w : World} {ad : Option Addr} {D : List Mi} (h : ItsAt Z w ad D) (hy : ∀ b, b < w.heap.size → Y b) : ItsAt Y w ad D := ⟨h.row, fun x hx => (h.nt x hx).other hy⟩
theorem NtsAt.other {Y : Nat → Prop} {w : World} {ad : Option Addr} {Q : List Mn} (h : NtsAt Z w ad Q) (hy : ∀ b, b < w.heap.size → Y b) : NtsAt Y w ad Q := ⟨h.row, fun x hx => (h.nt x hx).other hy⟩
end Go.Proofs.Ythfbpilfdfploaa
