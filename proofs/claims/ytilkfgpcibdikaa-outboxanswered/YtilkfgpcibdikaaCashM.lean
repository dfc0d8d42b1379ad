
/- Plain mathematics of amounts: sums and products, held in two halves of 64 bits, or of 32. -/
import Derived.Lib.ItoaNum
namespace Go.Proofs.Ytilkfgpcibdikaa.Csh

def okB (s : Int) : Bool := decide (-9223372036854775808 ≤ s) && decide (s ≤ 9223372036854775807)
def valE (s : Int) : Int := if okB s = true then s else 0
def errE (s : Int) : Int := if okB s = true then 0 else 40

def up (a : Int) : Int := if a < 0 then 18446744073709551615 else 0
def lowE (s : Int) : Int := s % 18446744073709551616
def highE (s : Int) : Int := s / 18446744073709551616 % 18446744073709551616
def sgn (n : Int) : Int := (n + 9223372036854775808) % 18446744073709551616 - 9223372036854775808

theorem low_rng (s : Int) : 0 ≤ lowE s ∧ lowE s < 18446744073709551616 := by unfold lowE; omega
theorem high_rng (s : Int) : 0 ≤ highE s ∧ highE s < 18446744073709551616 := by unfold highE; omega
theorem up_rng (a : Int) : 0 ≤ up a ∧ up a < 18446744073709551616 := by unfold up; split <;> omega

theorem low_step (s a : Int) : (lowE s + lowE a) % 18446744073709551616 = lowE (s + a) := by unfold lowE; omega
theorem high_step (s a : Int) (h0 : -9223372036854775808 ≤ a) (h1 : a ≤ 9223372036854775807) :
    (highE s + (up a + (lowE s + lowE a) / 18446744073709551616) % 18446744073709551616) % 18446744073709551616 = highE (s + a) := by
  unfold highE lowE up; split <;> omega

theorem narrow_yes (s : Int) (h : okB s = true) : highE s = up (sgn (lowE s)) ∧ sgn (lowE s) = s := by
  simp only [okB, Bool.and_eq_true, decide_eq_true_eq] at h
  unfold highE lowE up sgn
  refine ⟨?_, by omega⟩
  split <;> omega
theorem narrow_no (s : Int) (h : okB s = false) (h0 : -85070591730234615865843651857942052864 ≤ s) (h1 : s ≤ 85070591730234615865843651857942052864) : highE s ≠ up (sgn (lowE s)) := by
  simp only [okB, Bool.and_eq_false_iff, decide_eq_false_iff_not] at h
  unfold highE lowE up sgn
  split <;> omega

theorem mul_bound (a n : Int) (ha : -9223372036854775808 ≤ a) (ha1 : a ≤ 9223372036854775807) (hn : -9223372036854775808 ≤ n) (hn1 : n ≤ 9223372036854775807) :
    -85070591730234615865843651857942052864 ≤ a * n ∧ a * n ≤ 85070591730234615865843651857942052864 := by
  have h : (a * n).natAbs ≤ 85070591730234615865843651857942052864 := by
    rw [Int.natAbs_mul]
    calc a.natAbs * n.natAbs ≤ 9223372036854775808 * 9223372036854775808 := Nat.mul_le_mul (by omega) (by omega)
      _ = 85070591730234615865843651857942052864 := by decide
  omega

theorem times_low (a n : Int) : (lowE a * lowE n) % 18446744073709551616 = lowE (a * n) := by
  unfold lowE; rw [← Int.mul_emod]
theorem times_high (a n : Int) (ha : -9223372036854775808 ≤ a) (ha1 : a ≤ 9223372036854775807) (hn : -9223372036854775808 ≤ n) (hn1 : n ≤ 9223372036854775807) :
    (lowE a * lowE n / 18446744073709551616 - ((if a < 0 then lowE n else 0) + (if n < 0 then lowE a else 0))) % 18446744073709551616 = highE (a * n) := by
  unfold highE lowE
  by_cases h : a < 0 <;> by_cases k : n < 0
  · rw [if_pos h, if_pos k, show a % 18446744073709551616 = a + 18446744073709551616 by omega, show n % 18446744073709551616 = n + 18446744073709551616 by omega]
    have e : (a + 18446744073709551616) * (n + 18446744073709551616) = a * n + 18446744073709551616 * (a + n + 18446744073709551616) := by
      rw [Int.add_mul, Int.mul_add, Int.mul_add, Int.mul_comm a 18446744073709551616]; omega
    rw [e]
    generalize a * n = p
    omega
  · rw [if_pos h, if_neg k, show a % 18446744073709551616 = a + 18446744073709551616 by omega, show n % 18446744073709551616 = n by omega]
    have e : (a + 18446744073709551616) * n = a * n + 18446744073709551616 * n := by rw [Int.add_mul]
    rw [e]
    generalize a * n = p
    omega
  · rw [if_neg h, if_pos k, show a % 18446744073709551616 = a by omega, show n % 18446744073709551616 = n + 18446744073709551616 by omega]
    have e : a * (n + 18446744073709551616) = a * n + 18446744073709551616 * a := by rw [Int.mul_add, Int.mul_comm a 18446744073709551616]
    rw [e]
    generalize a * n = p
    omega
  · rw [if_neg h, if_neg k, show a % 18446744073709551616 = a by omega, show n % 18446744073709551616 = n by omega]
    generalize a * n = p
    omega

def sumE (l : List Int) : Int := l.foldr (· + ·) 0
theorem sum_cons (a : Int) (l : List Int) : sumE (a :: l) = a + sumE l := rfl
theorem sum_append (l m : List Int) : sumE (l ++ m) = sumE l + sumE m := by
  induction l with
  | nil => simp [sumE]
  | cons a l ih => rw [List.cons_append, sum_cons, sum_cons, ih]; omega
theorem sum_snoc (l : List Int) (a : Int) : sumE (l ++ [a]) = sumE l + a := by rw [sum_append]; simp [sumE]
theorem sum_more (l : List Int) (k : Nat) (h : k < l.length) : sumE (l.take (k + 1)) = sumE (l.take k) + l[k] := by
  rw [List.take_succ_eq_append_getElem h, sum_snoc]
theorem sum_reverse (l : List Int) : sumE l.reverse = sumE l := by
  induction l with
  | nil => rfl
  | cons a l ih => rw [List.reverse_cons, sum_snoc, sum_cons, ih]; omega
theorem sum_replicate (n : Nat) (a : Int) : sumE (List.replicate n a) = a * n := by
  induction n with
  | zero => simp [sumE]
  | succ n ih => rw [List.replicate_succ, sum_cons, ih, Int.natCast_succ, Int.mul_add]; omega
theorem sum_bound (l : List Int) (h : ∀ a ∈ l, -9223372036854775808 ≤ a ∧ a ≤ 9223372036854775807) : -9223372036854775808 * (l.length : Int) ≤ sumE l ∧ sumE l ≤ 9223372036854775808 * (l.length : Int) := by
  induction l with
  | nil => simp [sumE]
  | cons a l ih =>
    have h1 := ih (fun x hx => h x (List.mem_cons_of_mem _ hx))
    have h2 := h a List.mem_cons_self
    rw [sum_cons, List.length_cons]
    omega

/- the document's product -/
theorem times_back (a n : Int) (ha : -9223372036854775808 ≤ a) (ha1 : a ≤ 9223372036854775807) (hn : -9223372036854775808 ≤ n) (hn1 : n ≤ 9223372036854775807) (hz : n ≠ 0)
    (h1 : ¬ (a = -1 ∧ n = -9223372036854775808)) (h2 : ¬ (n = -1 ∧ a = -9223372036854775808)) (h3 : sgn ((sgn (a * n)).tdiv n) = a) : okB (a * n) = true := by
  by_cases e1 : n = 1
  · subst e1; rw [Int.mul_one]; simp [okB, ha, ha1]
  by_cases e2 : n = -1
  · subst e2
    have e : a * -1 = -a := by omega
    rw [e]
    simp only [okB, Bool.and_eq_true, decide_eq_true_eq]
    omega
  have hp : -9223372036854775808 ≤ sgn (a * n) ∧ sgn (a * n) ≤ 9223372036854775807 := by unfold sgn; omega
  have hm : (sgn (a * n) - a * n) % 18446744073709551616 = 0 := by unfold sgn; generalize a * n = x; omega
  generalize sgn (a * n) = p at *
  have hq : (p.tdiv n).natAbs ≤ 9223372036854775808 / 2 := by
    rw [Int.natAbs_tdiv]
    exact Nat.le_trans (Nat.div_le_div_left (by omega : 2 ≤ n.natAbs) (by omega)) (Nat.div_le_div_right (by omega))
  have hs : sgn (p.tdiv n) = p.tdiv n := by unfold sgn; omega
  rw [hs] at h3
  have hd := Int.mul_tdiv_add_tmod p n
  have hr : (p.tmod n).natAbs < n.natAbs := by rw [Int.natAbs_tmod]; exact Nat.mod_lt _ (by omega)
  rw [h3, Int.mul_comm] at hd
  have : a * n = p := by generalize a * n = x at *; omega
  rw [this]
  simp only [okB, Bool.and_eq_true, decide_eq_true_eq]
  exact hp
theorem times_forth (a n : Int) (hz : n ≠ 0) (h : okB (a * n) = true) (ha : -9223372036854775808 ≤ a) (ha1 : a ≤ 9223372036854775807) :
    ¬ (a = -1 ∧ n = -9223372036854775808) ∧ ¬ (n = -1 ∧ a = -9223372036854775808) ∧ sgn (a * n) = a * n ∧ sgn ((a * n).tdiv n) = a := by
  rw [Int.mul_tdiv_cancel a hz]
  simp only [okB, Bool.and_eq_true, decide_eq_true_eq] at h
  refine ⟨?_, ?_, ?_, ?_⟩
  · rintro ⟨rfl, rfl⟩; omega
  · rintro ⟨rfl, rfl⟩; omega
  · generalize a * n = x at *; unfold sgn; omega
  · unfold sgn; omega

/- the document's sum, in halves of 32 bits -/
theorem half_step (s a : Int) :
    s / 4294967296 + (a - (a.tmod 4294967296 + 4294967296).tmod 4294967296).tdiv 4294967296 + (s % 4294967296 + (a.tmod 4294967296 + 4294967296).tmod 4294967296) / 4294967296 = (s + a) / 4294967296 ∧
    (s % 4294967296 + (a.tmod 4294967296 + 4294967296).tmod 4294967296) % 4294967296 = (s + a) % 4294967296 := by
  have e : (a.tmod 4294967296 + 4294967296).tmod 4294967296 = a % 4294967296 := by
    by_cases h : 0 ≤ a
    · rw [Int.tmod_eq_emod_of_nonneg h, Int.tmod_eq_emod_of_nonneg (by omega)]; omega
    · have : a.tmod 4294967296 = -((-a) % 4294967296) := by rw [← Int.tmod_eq_emod_of_nonneg (by omega : 0 ≤ -a), Int.neg_tmod, Int.neg_neg]
      rw [this, Int.tmod_eq_emod_of_nonneg (by omega)]; omega
  rw [e]
  have e2 : (a - a % 4294967296).tdiv 4294967296 = a / 4294967296 := by
    have : a - a % 4294967296 = a / 4294967296 * 4294967296 := by omega
    rw [this, Int.mul_tdiv_cancel _ (by omega)]
  rw [e2]
  omega
end Go.Proofs.Ytilkfgpcibdikaa.Csh
