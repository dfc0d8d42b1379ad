/- Parts of these proofs, laid together. -/
import Init.Data.List
import Derived.Lib.ItoaNum
import Derived.Lib.Bytealg
/- Plain mathematics of ids of sagas: which may be, their path, their order. -/
namespace Go.Proofs.YtcmbppjfpdkblaaGreatDoor.Idn

/- a path of which every organisation is from 0 to 15 and stands once -/
def pathB : List Int → List Int → Bool
  | _, [] => true
  | seen, o :: r => decide (0 ≤ o) && decide (o < 16) && !(seen.contains o) && pathB (seen ++ [o]) r

def stepsB (l : List (Int × Int)) : Bool := l.all fun h => decide (0 ≤ h.1) && decide (h.1 < 8)

def path (r : Int) (l : List (Int × Int)) : List Int := r :: l.map (·.2)

def mayB (r n : Int) (l : List (Int × Int)) : Bool :=
  decide (1 ≤ n) && decide (n ≤ 999999) && decide (l.length ≤ 4) && stepsB l && pathB [] (path r l)


/- the hops alone, one by one -/
def hopsB (r : Int) : List Int → List (Int × Int) → Bool
  | _, [] => true
  | seen, h :: t => decide (0 ≤ h.1) && decide (h.1 < 8) && decide (0 ≤ h.2) && decide (h.2 < 16) && !(h.2 == r) && !(seen.contains h.2) && hopsB r (seen ++ [h.2]) t

theorem hops_path (r : Int) (l : List (Int × Int)) : ∀ seen, hopsB r seen l = (stepsB l && pathB (r :: seen) (l.map (·.2))) := by
  induction l with
  | nil => intro seen; rfl
  | cons h t ih =>
    intro seen
    have e1 : stepsB (h :: t) = (decide (0 ≤ h.1) && decide (h.1 < 8) && stepsB t) := rfl
    have e2 : pathB (r :: seen) ((h :: t).map (·.2)) = (decide (0 ≤ h.2) && decide (h.2 < 16) && !((r :: seen).contains h.2) && pathB ((r :: seen) ++ [h.2]) (t.map (·.2))) := rfl
    have e3 : (r :: seen).contains h.2 = (h.2 == r || seen.contains h.2) := rfl
    rw [hopsB, ih, e1, e2, e3, List.cons_append]
    generalize decide (0 ≤ h.1) = a
    generalize decide (h.1 < 8) = b
    generalize decide (0 ≤ h.2) = c
    generalize decide (h.2 < 16) = d
    generalize (h.2 == r) = e
    generalize seen.contains h.2 = f
    generalize stepsB t = g
    generalize pathB _ _ = k
    revert a b c d e f g k
    decide
theorem may_hops (r n : Int) (l : List (Int × Int)) : mayB r n l = (decide (1 ≤ n) && decide (n ≤ 999999) && decide (l.length ≤ 4) && decide (0 ≤ r) && decide (r < 16) && hopsB r [] l) := by
  have e2 : pathB [] (path r l) = (decide (0 ≤ r) && decide (r < 16) && pathB [r] (l.map (·.2))) := by
    show (decide (0 ≤ r) && decide (r < 16) && !(([] : List Int).contains r) && pathB ([] ++ [r]) (l.map (·.2))) = _
    simp
  rw [mayB, hops_path, e2]
  generalize decide (1 ≤ n) = a
  generalize decide (n ≤ 999999) = b
  generalize decide (l.length ≤ 4) = c
  generalize decide (0 ≤ r) = d
  generalize decide (r < 16) = e
  generalize stepsB l = g
  generalize pathB _ _ = k
  revert a b c d e g k
  decide
end Go.Proofs.YtcmbppjfpdkblaaGreatDoor.Idn
/- A path has no organisation twice; a child's path has one more. -/
namespace Go.Proofs.YtcmbppjfpdkblaaGreatDoor.Idn

theorem pathB_new (l : List Int) : ∀ seen, pathB seen l = true → ∀ o ∈ l, o ∉ seen := by
  induction l with
  | nil => intro _ _ o ho; simp at ho
  | cons a l ih =>
    intro seen h o ho
    rw [pathB] at h
    simp only [Bool.and_eq_true, Bool.not_eq_true', List.contains_eq_mem, decide_eq_false_iff_not] at h
    rcases List.mem_cons.1 ho with rfl | ho
    · exact h.1.2
    · exact fun x => ih _ h.2 o ho (List.mem_append_left _ x)
theorem pathB_nodup (l : List Int) : ∀ seen, pathB seen l = true → l.Nodup := by
  induction l with
  | nil => intro _ _; exact List.nodup_nil
  | cons a l ih =>
    intro seen h
    rw [pathB] at h
    simp only [Bool.and_eq_true] at h
    refine List.nodup_cons.2 ⟨fun ha => pathB_new l _ h.2 a ha (by simp), ih _ h.2⟩
theorem pathB_snoc (l : List Int) (o : Int) : ∀ seen, pathB seen (l ++ [o]) = true → pathB seen l = true ∧ o ∉ seen ∧ o ∉ l := by
  induction l with
  | nil =>
    intro seen h
    exact ⟨rfl, pathB_new _ _ h o (by simp), by simp⟩
  | cons a l ih =>
    intro seen h
    rw [List.cons_append, pathB] at h
    simp only [Bool.and_eq_true] at h
    obtain ⟨h1, h2, h3⟩ := ih _ h.2
    refine ⟨by rw [pathB, h1]; simp only [Bool.and_true, Bool.and_eq_true]; exact h.1, fun x => h2 (List.mem_append_left _ x), ?_⟩
    intro x
    rcases List.mem_cons.1 x with rfl | x
    · exact h2 (by simp)
    · exact h3 x
theorem path_snoc (r s o : Int) (L : List (Int × Int)) : path r (L ++ [(s, o)]) = path r L ++ [o] := by simp [path]
theorem may_snoc {r n s o : Int} {L : List (Int × Int)} (h : mayB r n (L ++ [(s, o)]) = true) : mayB r n L = true ∧ o ∉ path r L := by
  unfold mayB at h ⊢
  simp only [Bool.and_eq_true, decide_eq_true_eq, List.length_append, List.length_singleton] at h ⊢
  rw [path_snoc] at h
  obtain ⟨h1, _, h3⟩ := pathB_snoc _ _ _ h.2
  have h4 : stepsB L = true := by
    have := h.1.2
    unfold stepsB at this ⊢
    rw [List.all_append] at this
    simp only [Bool.and_eq_true] at this
    exact this.1
  exact ⟨⟨⟨⟨⟨h.1.1.1.1, h.1.1.1.2⟩, by omega⟩, h4⟩, h1⟩, h3⟩
theorem may_nodup {r n : Int} {L : List (Int × Int)} (h : mayB r n L = true) : (path r L).Nodup := by
  unfold mayB at h
  simp only [Bool.and_eq_true] at h
  exact pathB_nodup _ _ h.2
theorem nodup_get {l : List Int} (h : l.Nodup) {i j : Nat} (hi : i < l.length) (hj : j < l.length) (hne : i ≠ j) : (l[i] == l[j]) = false := by
  have hp := List.pairwise_iff_getElem.1 h
  rw [beq_eq_false_iff_ne]
  rcases Nat.lt_or_gt_of_ne hne with hl | hl
  · exact hp i j hi hj hl
  · exact fun e => hp j i hj hi hl e.symm
end Go.Proofs.YtcmbppjfpdkblaaGreatDoor.Idn
/- Plain mathematics of the order of ids. -/
namespace Go.Proofs.YtcmbppjfpdkblaaGreatDoor.Idn

def cmpI (a b : Int) : Int := if a < b then -1 else if b < a then 1 else 0
def orI (a b : Int) : Int := if a = 0 then b else a
def cmpP (x y : Int × Int) : Int := orI (cmpI x.1 y.1) (cmpI x.2 y.2)
def cmpH : List (Int × Int) → List (Int × Int) → Int
  | [], [] => 0
  | [], _ :: _ => -1
  | _ :: _, [] => 1
  | x :: s, y :: t => orI (cmpP x y) (cmpH s t)
def cmpE (r n : Int) (L : List (Int × Int)) (r' n' : Int) (L' : List (Int × Int)) : Int := orI (cmpI r r') (orI (cmpI n n') (cmpH L L'))

theorem cmpI_zero (a b : Int) : cmpI a b = 0 ↔ a = b := by unfold cmpI; split <;> (try split) <;> omega
theorem cmpI_rng (a b : Int) : cmpI a b = -1 ∨ cmpI a b = 0 ∨ cmpI a b = 1 := by unfold cmpI; split <;> (try split) <;> omega
theorem cmpI_neg (a b : Int) : cmpI b a = - cmpI a b := by unfold cmpI; split <;> (try split) <;> (try split) <;> omega
theorem orI_zero (a b : Int) : orI a b = 0 ↔ a = 0 ∧ b = 0 := by unfold orI; split <;> omega
theorem orI_self_zero (a : Int) : orI 0 a = a := rfl
theorem cmpP_zero (x y : Int × Int) : cmpP x y = 0 ↔ x = y := by
  unfold cmpP; rw [orI_zero, cmpI_zero, cmpI_zero, Prod.ext_iff]
theorem cmpH_zero (s : List (Int × Int)) : ∀ t, cmpH s t = 0 ↔ s = t := by
  induction s with
  | nil => intro t; cases t <;> simp [cmpH]
  | cons x s ih =>
    intro t
    cases t with
    | nil => simp [cmpH]
    | cons y t => rw [cmpH, orI_zero, cmpP_zero, ih, List.cons.injEq]
theorem cmpE_zero (r n : Int) (L : List (Int × Int)) (r' n' : Int) (L' : List (Int × Int)) : cmpE r n L r' n' L' = 0 ↔ r = r' ∧ n = n' ∧ L = L' := by
  unfold cmpE; rw [orI_zero, orI_zero, cmpI_zero, cmpI_zero, cmpH_zero]
end Go.Proofs.YtcmbppjfpdkblaaGreatDoor.Idn
/- Plain mathematics of amounts: sums and products, held in two halves of 64 bits, or of 32. -/
namespace Go.Proofs.YtcmbppjfpdkblaaGreatDoor.Csh

def okB (s : Int) : Bool := decide (-9223372036854775808 ≤ s) && decide (s ≤ 9223372036854775807)
def valE (s : Int) : Int := if okB s = true then s else 0
def errE (s : Int) : Int := if okB s = true then 0 else 40

def up (a : Int) : Int := if a < 0 then 18446744073709551615 else 0
def lowE (s : Int) : Int := s % 18446744073709551616
def highE (s : Int) : Int := s / 18446744073709551616 % 18446744073709551616
def sgn (n : Int) : Int := (n + 9223372036854775808) % 18446744073709551616 - 9223372036854775808

theorem low_rng (s : Int) : 0 ≤ lowE s ∧ lowE s < 18446744073709551616 := by unfold lowE; omega
theorem high_rng (s : Int) : 0 ≤ highE s ∧ highE s < 18446744073709551616 := by unfold highE; omega
theorem up_rng (a : Int) : 0 ≤ up a ∧ up a < 18446744073709551616 := by unfold up; split <;> omega

theorem low_step (s a : Int) : (lowE s + lowE a) % 18446744073709551616 = lowE (s + a) := by unfold lowE; omega
theorem high_step (s a : Int) (h0 : -9223372036854775808 ≤ a) (h1 : a ≤ 9223372036854775807) :
    (highE s + (up a + (lowE s + lowE a) / 18446744073709551616) % 18446744073709551616) % 18446744073709551616 = highE (s + a) := by
  unfold highE lowE up; split <;> omega

theorem narrow_yes (s : Int) (h : okB s = true) : highE s = up (sgn (lowE s)) ∧ sgn (lowE s) = s := by
  simp only [okB, Bool.and_eq_true, decide_eq_true_eq] at h
  unfold highE lowE up sgn
  refine ⟨?_, by omega⟩
  split <;> omega
theorem narrow_no (s : Int) (h : okB s = false) (h0 : -85070591730234615865843651857942052864 ≤ s) (h1 : s ≤ 85070591730234615865843651857942052864) : highE s ≠ up (sgn (lowE s)) := by
  simp only [okB, Bool.and_eq_false_iff, decide_eq_false_iff_not] at h
  unfold highE lowE up sgn
  split <;> omega

theorem mul_bound (a n : Int) (ha : -9223372036854775808 ≤ a) (ha1 : a ≤ 9223372036854775807) (hn : -9223372036854775808 ≤ n) (hn1 : n ≤ 9223372036854775807) :
    -85070591730234615865843651857942052864 ≤ a * n ∧ a * n ≤ 85070591730234615865843651857942052864 := by
  have h : (a * n).natAbs ≤ 85070591730234615865843651857942052864 := by
    rw [Int.natAbs_mul]
    calc a.natAbs * n.natAbs ≤ 9223372036854775808 * 9223372036854775808 := Nat.mul_le_mul (by omega) (by omega)
      _ = 85070591730234615865843651857942052864 := by decide
  omega

theorem times_low (a n : Int) : (lowE a * lowE n) % 18446744073709551616 = lowE (a * n) := by
  unfold lowE; rw [← Int.mul_emod]
theorem times_high (a n : Int) (ha : -9223372036854775808 ≤ a) (ha1 : a ≤ 9223372036854775807) (hn : -9223372036854775808 ≤ n) (hn1 : n ≤ 9223372036854775807) :
    (lowE a * lowE n / 18446744073709551616 - ((if a < 0 then lowE n else 0) + (if n < 0 then lowE a else 0))) % 18446744073709551616 = highE (a * n) := by
  unfold highE lowE
  by_cases h : a < 0 <;> by_cases k : n < 0
  · rw [if_pos h, if_pos k, show a % 18446744073709551616 = a + 18446744073709551616 by omega, show n % 18446744073709551616 = n + 18446744073709551616 by omega]
    have e : (a + 18446744073709551616) * (n + 18446744073709551616) = a * n + 18446744073709551616 * (a + n + 18446744073709551616) := by
      rw [Int.add_mul, Int.mul_add, Int.mul_add, Int.mul_comm a 18446744073709551616]; omega
    rw [e]
    generalize a * n = p
    omega
  · rw [if_pos h, if_neg k, show a % 18446744073709551616 = a + 18446744073709551616 by omega, show n % 18446744073709551616 = n by omega]
    have e : (a + 18446744073709551616) * n = a * n + 18446744073709551616 * n := by rw [Int.add_mul]
    rw [e]
    generalize a * n = p
    omega
  · rw [if_neg h, if_pos k, show a % 18446744073709551616 = a by omega, show n % 18446744073709551616 = n + 18446744073709551616 by omega]
    have e : a * (n + 18446744073709551616) = a * n + 18446744073709551616 * a := by rw [Int.mul_add, Int.mul_comm a 18446744073709551616]
    rw [e]
    generalize a * n = p
    omega
  · rw [if_neg h, if_neg k, show a % 18446744073709551616 = a by omega, show n % 18446744073709551616 = n by omega]
    generalize a * n = p
    omega

def sumE (l : List Int) : Int := l.foldr (· + ·) 0
theorem sum_cons (a : Int) (l : List Int) : sumE (a :: l) = a + sumE l := rfl
theorem sum_append (l m : List Int) : sumE (l ++ m) = sumE l + sumE m := by
  induction l with
  | nil => simp [sumE]
  | cons a l ih => rw [List.cons_append, sum_cons, sum_cons, ih]; omega
theorem sum_snoc (l : List Int) (a : Int) : sumE (l ++ [a]) = sumE l + a := by rw [sum_append]; simp [sumE]
theorem sum_more (l : List Int) (k : Nat) (h : k < l.length) : sumE (l.take (k + 1)) = sumE (l.take k) + l[k] := by
  rw [List.take_succ_eq_append_getElem h, sum_snoc]
theorem sum_reverse (l : List Int) : sumE l.reverse = sumE l := by
  induction l with
  | nil => rfl
  | cons a l ih => rw [List.reverse_cons, sum_snoc, sum_cons, ih]; omega
theorem sum_replicate (n : Nat) (a : Int) : sumE (List.replicate n a) = a * n := by
  induction n with
  | zero => simp [sumE]
  | succ n ih => rw [List.replicate_succ, sum_cons, ih, Int.natCast_succ, Int.mul_add]; omega
theorem sum_bound (l : List Int) (h : ∀ a ∈ l, -9223372036854775808 ≤ a ∧ a ≤ 9223372036854775807) : -9223372036854775808 * (l.length : Int) ≤ sumE l ∧ sumE l ≤ 9223372036854775808 * (l.length : Int) := by
  induction l with
  | nil => simp [sumE]
  | cons a l ih =>
    have h1 := ih (fun x hx => h x (List.mem_cons_of_mem _ hx))
    have h2 := h a List.mem_cons_self
    rw [sum_cons, List.length_cons]
    omega

/- the document's product -/
theorem times_back (a n : Int) (ha : -9223372036854775808 ≤ a) (ha1 : a ≤ 9223372036854775807) (hn : -9223372036854775808 ≤ n) (hn1 : n ≤ 9223372036854775807) (hz : n ≠ 0)
    (h1 : ¬ (a = -1 ∧ n = -9223372036854775808)) (h2 : ¬ (n = -1 ∧ a = -9223372036854775808)) (h3 : sgn ((sgn (a * n)).tdiv n) = a) : okB (a * n) = true := by
  by_cases e1 : n = 1
  · subst e1; rw [Int.mul_one]; simp [okB, ha, ha1]
  by_cases e2 : n = -1
  · subst e2
    have e : a * -1 = -a := by omega
    rw [e]
    simp only [okB, Bool.and_eq_true, decide_eq_true_eq]
    omega
  have hp : -9223372036854775808 ≤ sgn (a * n) ∧ sgn (a * n) ≤ 9223372036854775807 := by unfold sgn; omega
  have hm : (sgn (a * n) - a * n) % 18446744073709551616 = 0 := by unfold sgn; generalize a * n = x; omega
  generalize sgn (a * n) = p at *
  have hq : (p.tdiv n).natAbs ≤ 9223372036854775808 / 2 := by
    rw [Int.natAbs_tdiv]
    exact Nat.le_trans (Nat.div_le_div_left (by omega : 2 ≤ n.natAbs) (by omega)) (Nat.div_le_div_right (by omega))
  have hs : sgn (p.tdiv n) = p.tdiv n := by unfold sgn; omega
  rw [hs] at h3
  have hd := Int.mul_tdiv_add_tmod p n
  have hr : (p.tmod n).natAbs < n.natAbs := by rw [Int.natAbs_tmod]; exact Nat.mod_lt _ (by omega)
  rw [h3, Int.mul_comm] at hd
  have : a * n = p := by generalize a * n = x at *; omega
  rw [this]
  simp only [okB, Bool.and_eq_true, decide_eq_true_eq]
  exact hp
theorem times_forth (a n : Int) (hz : n ≠ 0) (h : okB (a * n) = true) (ha : -9223372036854775808 ≤ a) (ha1 : a ≤ 9223372036854775807) :
    ¬ (a = -1 ∧ n = -9223372036854775808) ∧ ¬ (n = -1 ∧ a = -9223372036854775808) ∧ sgn (a * n) = a * n ∧ sgn ((a * n).tdiv n) = a := by
  rw [Int.mul_tdiv_cancel a hz]
  simp only [okB, Bool.and_eq_true, decide_eq_true_eq] at h
  refine ⟨?_, ?_, ?_, ?_⟩
  · rintro ⟨rfl, rfl⟩; omega
  · rintro ⟨rfl, rfl⟩; omega
  · generalize a * n = x at *; unfold sgn; omega
  · unfold sgn; omega

/- the document's sum, in halves of 32 bits -/
theorem half_step (s a : Int) :
    s / 4294967296 + (a - (a.tmod 4294967296 + 4294967296).tmod 4294967296).tdiv 4294967296 + (s % 4294967296 + (a.tmod 4294967296 + 4294967296).tmod 4294967296) / 4294967296 = (s + a) / 4294967296 ∧
    (s % 4294967296 + (a.tmod 4294967296 + 4294967296).tmod 4294967296) % 4294967296 = (s + a) % 4294967296 := by
  have e : (a.tmod 4294967296 + 4294967296).tmod 4294967296 = a % 4294967296 := by
    by_cases h : 0 ≤ a
    · rw [Int.tmod_eq_emod_of_nonneg h, Int.tmod_eq_emod_of_nonneg (by omega)]; omega
    · have : a.tmod 4294967296 = -((-a) % 4294967296) := by rw [← Int.tmod_eq_emod_of_nonneg (by omega : 0 ≤ -a), Int.neg_tmod, Int.neg_neg]
      rw [this, Int.tmod_eq_emod_of_nonneg (by omega)]; omega
  rw [e]
  have e2 : (a - a % 4294967296).tdiv 4294967296 = a / 4294967296 := by
    have : a - a % 4294967296 = a / 4294967296 * 4294967296 := by omega
    rw [this, Int.mul_tdiv_cancel _ (by omega)]
  rw [e2]
  omega
end Go.Proofs.YtcmbppjfpdkblaaGreatDoor.Csh
/- Plain mathematics of pots: what may be, what goes, and what a row of doing, undoing and keeping comes to. -/
namespace Go.Proofs.YtcmbppjfpdkblaaGreatDoor.Pot

def mayB (h i o : Int) : Bool := decide (0 ≤ i) && decide (i ≤ h) && decide (0 ≤ o) && decide (h + o ≤ 1000000000000000)
def chkE (h i o : Int) : Int := if mayB h i o = true then 0 else 2
def freeE (h i o : Int) : Int := if mayB h i o = true then h - i else 0
def roomE (h i o : Int) : Int := if mayB h i o = true then 1000000000000000 - h - o else 0
def argB (h i o a : Int) : Bool := mayB h i o && decide (1 ≤ a) && decide (a ≤ 1000000000000000)
def errE (h i o a m : Int) : Int := if argB h i o a = true then (if m < a then 50 else 0) else 2
def pick (e x : Int) : Int := if e = 0 then x else 0

theorem may_iff (h i o : Int) : mayB h i o = true ↔ 0 ≤ i ∧ i ≤ h ∧ 0 ≤ o ∧ h + o ≤ 1000000000000000 := by
  unfold mayB; simp only [Bool.and_eq_true, decide_eq_true_eq]; omega
theorem arg_iff (h i o a : Int) : argB h i o a = true ↔ (0 ≤ i ∧ i ≤ h ∧ 0 ≤ o ∧ h + o ≤ 1000000000000000) ∧ 1 ≤ a ∧ a ≤ 1000000000000000 := by
  unfold argB; rw [Bool.and_eq_true, Bool.and_eq_true, may_iff, decide_eq_true_eq, decide_eq_true_eq]; omega
theorem may_no (h i o : Int) (e : mayB h i o = false) : i < 0 ∨ h < i ∨ o < 0 ∨ 1000000000000000 < h + o := by
  have := may_iff h i o
  rw [e] at this
  simp at this
  omega
theorem arg_no (h i o a : Int) (e : argB h i o a = false) : mayB h i o = false ∨ a < 1 ∨ 1000000000000000 < a := by
  unfold argB at e
  cases hm : mayB h i o with
  | false => exact Or.inl rfl
  | true =>
    rw [hm] at e
    simp at e
    omega
theorem err_ok {h i o a m : Int} (h1 : argB h i o a = true) (h2 : ¬ m < a) : errE h i o a m = 0 := by unfold errE; rw [if_pos h1, if_neg h2]
theorem err_pot {h i o a m : Int} (h1 : argB h i o a = true) (h2 : m < a) : errE h i o a m = 50 := by unfold errE; rw [if_pos h1, if_pos h2]
theorem err_arg {h i o a m : Int} (h1 : argB h i o a = false) : errE h i o a m = 2 := by unfold errE; rw [if_neg (by rw [h1]; simp)]
theorem pick0 (x : Int) : pick 0 x = x := rfl
theorem pick50 (x : Int) : pick 50 x = 0 := rfl
theorem pick2 (x : Int) : pick 2 x = 0 := rfl
theorem err_cases (h i o a m : Int) : (errE h i o a m = 0 ∧ argB h i o a = true ∧ a ≤ m) ∨ (errE h i o a m = 50 ∧ argB h i o a = true ∧ m < a) ∨ (errE h i o a m = 2 ∧ argB h i o a = false) := by
  cases h1 : argB h i o a with
  | true =>
    by_cases h2 : m < a
    · exact Or.inr (Or.inl ⟨err_pot h1 h2, rfl, h2⟩)
    · exact Or.inl ⟨err_ok h1 h2, rfl, by omega⟩
  | false => exact Or.inr (Or.inr ⟨err_arg h1, rfl⟩)

def unit (d : Int) : Prop := d = -1 ∨ d = 0 ∨ d = 1
theorem unit_rng (x d a : Int) (hd : unit d) (h0 : 0 ≤ x) (h1 : x ≤ 1000000000000000) (a0 : 1 ≤ a) (a1 : a ≤ 1000000000000000) :
    (-9223372036854775808 ≤ d * a ∧ d * a ≤ 9223372036854775807) ∧ (-9223372036854775808 ≤ x + d * a ∧ x + d * a ≤ 9223372036854775807) := by
  rcases hd with rfl | rfl | rfl
  · rw [Int.neg_mul, Int.one_mul]; omega
  · rw [Int.zero_mul]; omega
  · rw [Int.one_mul]; omega

/- what is left where an amount goes: the most that may go -/
def mostDo (out : Bool) (h i o : Int) : Int := if out = true then freeE h i o else roomE h i o
def mostUn (out : Bool) (i o : Int) : Int := if out = true then o else i
def eDo (out : Bool) (h i o a : Int) : Int := errE h i o a (mostDo out h i o)
def eUn (out : Bool) (h i o a : Int) : Int := errE h i o a (mostUn out i o)
def sg (out : Bool) (x y : Int) : Int := if out = true then x else y
end Go.Proofs.YtcmbppjfpdkblaaGreatDoor.Pot
/- Plain mathematics of activities: names, what may be, what an activity moves. -/
namespace Go.Proofs.YtcmbppjfpdkblaaGreatDoor.Act

def letB (b : UInt8) : Bool := decide ((97 : Int) ≤ (b.toNat : Int)) && decide ((b.toNat : Int) ≤ 122)
def digB (b : UInt8) : Bool := decide ((48 : Int) ≤ (b.toNat : Int)) && decide ((b.toNat : Int) ≤ 57)
def sgnB (b : UInt8) : Bool := letB b || digB b
def headB : List UInt8 → Bool
  | [] => false
  | b :: _ => letB b
def nameB (s : ByteArray) : Bool := decide (s.size ≤ 16) && headB s.data.toList && s.data.toList.all sgnB

theorem head_get (s : ByteArray) (h : 0 < s.size) : headB s.data.toList = letB (s[0]'h) := by
  have hl : s.data.toList.length = s.size := by simp
  have h0 : s.data.toList[0]'(by omega) = s[0]'h := rfl
  cases hc : s.data.toList with
  | nil => rw [hc] at hl; simp at hl; omega
  | cons b t => simp only [hc] at h0; rw [← h0]; rfl
theorem head_none (s : ByteArray) (h : s.size = 0) : headB s.data.toList = false := by
  have hl : s.data.toList.length = s.size := by simp
  cases hc : s.data.toList with
  | nil => rfl
  | cons b t => rw [hc] at hl; simp at hl; omega
theorem name_empty (s : ByteArray) (h : s.size = 0) : nameB s = false := by unfold nameB; rw [head_none s h]; simp
theorem name_long (s : ByteArray) (h : 16 < s.size) : nameB s = false := by unfold nameB; rw [decide_eq_false (by omega)]; rfl
theorem name_head (s : ByteArray) (h : 0 < s.size) (hb : letB (s[0]'h) = false) : nameB s = false := by unfold nameB; rw [head_get s h, hb]; simp
theorem name_sign (s : ByteArray) (k : Nat) (h : k < s.size) (hb : sgnB (s[k]'h) = false) : nameB s = false := by
  have hl : s.data.toList.length = s.size := by simp
  have hk : s.data.toList[k]'(by omega) = s[k]'h := rfl
  have : s.data.toList.all sgnB = false := by
    rw [List.all_eq_false]
    exact ⟨_, List.getElem_mem (by omega : k < s.data.toList.length), by rw [hk, hb]; simp⟩
  unfold nameB; rw [this]; simp
theorem name_yes (s : ByteArray) (h : 0 < s.size) (h16 : s.size ≤ 16) (hb : letB (s[0]'h) = true) (ha : ∀ j (hj : j < s.size), sgnB (s[j]'hj) = true) : nameB s = true := by
  have hl : s.data.toList.length = s.size := by simp
  have : s.data.toList.all sgnB = true := by
    rw [List.all_eq_true]
    intro b hm
    obtain ⟨j, hj, rfl⟩ := List.getElem_of_mem hm
    exact ha j (by omega)
  unfold nameB; rw [this, head_get s h, hb, decide_eq_true h16]; rfl
theorem sgn_let {b : UInt8} (h : letB b = true) : sgnB b = true := by unfold sgnB; rw [h]; rfl
theorem sgn_dig {b : UInt8} (h : digB b = true) : sgnB b = true := by unfold sgnB; rw [h]; simp
theorem sgn_no {b : UInt8} (h : letB b = false) (h2 : digB b = false) : sgnB b = false := by unfold sgnB; rw [h, h2]; rfl
theorem dig_let {b : UInt8} (h : digB b = true) : letB b = false := by
  unfold digB at h
  unfold letB
  simp only [Bool.and_eq_true, decide_eq_true_eq] at h
  rw [decide_eq_false (by omega)]; rfl
theorem name_pos {s : ByteArray} (h : nameB s = true) : 0 < s.size ∧ s.size ≤ 16 := by
  refine ⟨?_, ?_⟩
  · by_cases hz : s.size = 0
    · rw [name_empty s hz] at h; cases h
    · omega
  · by_cases hz : 16 < s.size
    · rw [name_long s hz] at h; cases h
    · omega

/- an activity, an account -/
def actB (k : Int) (s : ByteArray) (n : Int) : Bool := decide (1 ≤ k) && decide (k ≤ 4) && nameB s && decide (1 ≤ n) && decide (n ≤ 1000000000000000)
def chkE (k : Int) (s : ByteArray) (n : Int) : Int := if actB k s n = true then 0 else 60
theorem act_iff (k : Int) (s : ByteArray) (n : Int) : actB k s n = true ↔ (1 ≤ k ∧ k ≤ 4) ∧ nameB s = true ∧ 1 ≤ n ∧ n ≤ 1000000000000000 := by
  unfold actB; simp only [Bool.and_eq_true, decide_eq_true_eq]; constructor
  · rintro ⟨⟨⟨⟨a, b⟩, c⟩, d⟩, e⟩; exact ⟨⟨a, b⟩, c, d, e⟩
  · rintro ⟨⟨a, b⟩, c, d, e⟩; exact ⟨⟨⟨⟨a, b⟩, c⟩, d⟩, e⟩
theorem chk_yes {k : Int} {s : ByteArray} {n : Int} (h : actB k s n = true) : chkE k s n = 0 := by unfold chkE; rw [if_pos h]
theorem chk_no {k : Int} {s : ByteArray} {n : Int} (h : actB k s n = false) : chkE k s n = 60 := by unfold chkE; rw [h]; rfl
def accB (s : ByteArray) (a b c x y z : Int) : Bool := nameB s && Pot.mayB a b c && Pot.mayB x y z
def mayE (s : ByteArray) (a b c x y z : Int) : Int := if accB s a b c x y z = true then 0 else 2
theorem may_yes {s : ByteArray} {a b c x y z : Int} (h : accB s a b c x y z = true) : mayE s a b c x y z = 0 := by unfold mayE; rw [if_pos h]
theorem may_no {s : ByteArray} {a b c x y z : Int} (h : accB s a b c x y z = false) : mayE s a b c x y z = 2 := by unfold mayE; rw [h]; rfl

/- what keeps an activity from an account, whatever its pots have -/
def fitE (s : ByteArray) (a b c x y z : Int) (k : Int) (t : ByteArray) (n : Int) : Int := if accB s a b c x y z = true then (if (actB k t n && decide (t = s)) = true then 0 else 60) else 2

/- the ways of an activity: of Free, of Kept -/
def wF (k : Int) : Int := if k = 1 ∨ k = 3 then -1 else if k = 2 ∨ k = 4 then 1 else 0
def wK (k : Int) : Int := if k = 3 then 1 else if k = 4 then -1 else 0
theorem way_unit (k : Int) : Pot.unit (Act.wF k) ∧ Pot.unit (Act.wK k) := by
  unfold Act.wF Act.wK Pot.unit
  refine ⟨?_, ?_⟩ <;> (repeat' split) <;> simp
theorem way_rng (k n : Int) (h0 : 1 ≤ n) (h1 : n ≤ 1000000000000000) : (-9223372036854775808 ≤ Act.wF k * n ∧ Act.wF k * n ≤ 9223372036854775807) ∧ (-9223372036854775808 ≤ Act.wK k * n ∧ Act.wK k * n ≤ 9223372036854775807) :=
  ⟨(Pot.unit_rng 0 _ n (way_unit k).1 (by omega) (by omega) h0 h1).1, (Pot.unit_rng 0 _ n (way_unit k).2 (by omega) (by omega) h0 h1).1⟩
def dF (k : Int) (s : ByteArray) (n : Int) : Int := if actB k s n = true then wF k * n else 0
def dK (k : Int) (s : ByteArray) (n : Int) : Int := if actB k s n = true then wK k * n else 0

/- what one of pot's calls answers -/
structure Ch where
  h : Bool → Int → Int → Int → Int → Int
  i : Bool → Int → Int → Int → Int → Int
  o : Bool → Int → Int → Int → Int → Int
  e : Bool → Int → Int → Int → Int → Int
def chDo : Ch := ⟨fun out h i o a => Pot.pick (Pot.eDo out h i o a) (h + Pot.sg out (-1) 1 * a), fun out h i o a => Pot.pick (Pot.eDo out h i o a) (i + Pot.sg out 0 1 * a), fun out h i o a => Pot.pick (Pot.eDo out h i o a) (o + Pot.sg out 1 0 * a), fun out h i o a => Pot.eDo out h i o a⟩
def chUn : Ch := ⟨fun out h i o a => Pot.pick (Pot.eUn out h i o a) (h + Pot.sg out 1 (-1) * a), fun out h i o a => Pot.pick (Pot.eUn out h i o a) (i + Pot.sg out 0 (-1) * a), fun out h i o a => Pot.pick (Pot.eUn out h i o a) (o + Pot.sg out (-1) 0 * a), fun out h i o a => Pot.eUn out h i o a⟩
def chKe : Ch := ⟨fun out h i o a => Pot.pick (Pot.eUn out h i o a) (h + Pot.sg out 0 0 * a), fun out h i o a => Pot.pick (Pot.eUn out h i o a) (i + Pot.sg out 0 (-1) * a), fun out h i o a => Pot.pick (Pot.eUn out h i o a) (o + Pot.sg out (-1) 0 * a), fun out h i o a => Pot.eUn out h i o a⟩
/- the way of an activity with each pot, as a call of pot's takes it -/
def oF (k : Int) : Bool := decide (wF k < 0)
def oK (k : Int) : Bool := decide (wK k < 0)
def eK (C : Ch) (k x y z n : Int) : Int := if wK k = 0 then 0 else C.e (oK k) x y z n
def hK (C : Ch) (k x y z n : Int) : Int := if wK k = 0 then x else C.h (oK k) x y z n
def iK (C : Ch) (k x y z n : Int) : Int := if wK k = 0 then y else C.i (oK k) x y z n
def uK (C : Ch) (k x y z n : Int) : Int := if wK k = 0 then z else C.o (oK k) x y z n
/- the error of a call with an account, and the account -/
def mvE (C : Ch) (s : ByteArray) (a b c x y z : Int) (k : Int) (t : ByteArray) (n : Int) : Int :=
  if fitE s a b c x y z k t n = 0 then (if C.e (oF k) a b c n = 0 then eK C k x y z n else C.e (oF k) a b c n) else fitE s a b c x y z k t n
def both (e1 e2 : Int) : Int := if e1 = 0 then e2 else e1
def pickS (e : Int) (s : ByteArray) : ByteArray := if e = 0 then s else ⟨#[]⟩
theorem fit_cases (s : ByteArray) (a b c x y z : Int) (k : Int) (t : ByteArray) (n : Int) :
    (fitE s a b c x y z k t n = 0 ∧ accB s a b c x y z = true ∧ actB k t n = true ∧ t = s) ∨ fitE s a b c x y z k t n = 2 ∨ fitE s a b c x y z k t n = 60 := by
  unfold fitE
  by_cases h1 : accB s a b c x y z = true
  · rw [if_pos h1]
    by_cases h2 : (actB k t n && decide (t = s)) = true
    · rw [if_pos h2]
      rw [Bool.and_eq_true, decide_eq_true_eq] at h2
      exact Or.inl ⟨rfl, h1, h2.1, h2.2⟩
    · rw [if_neg h2]; exact Or.inr (Or.inr rfl)
  · rw [if_neg h1]; exact Or.inr (Or.inl rfl)
theorem acc_iff (s : ByteArray) (a b c x y z : Int) : accB s a b c x y z = true ↔ nameB s = true ∧ Pot.mayB a b c = true ∧ Pot.mayB x y z = true := by
  unfold accB; rw [Bool.and_eq_true, Bool.and_eq_true]; constructor
  · rintro ⟨⟨p, q⟩, r⟩; exact ⟨p, q, r⟩
  · rintro ⟨p, q, r⟩; exact ⟨⟨p, q⟩, r⟩
theorem wF_ne {k : Int} (h0 : 1 ≤ k) (h1 : k ≤ 4) : wF k ≠ 0 := by
  have : k = 1 ∨ k = 2 ∨ k = 3 ∨ k = 4 := by omega
  rcases this with rfl | rfl | rfl | rfl <;> simp [wF]
end Go.Proofs.YtcmbppjfpdkblaaGreatDoor.Act
/- Plain mathematics of the texts of ids: a text cut at its first sign; what is shown. -/
namespace Go.Proofs.YtcmbppjfpdkblaaGreatDoor.Idn

def cut3 : List UInt8 → UInt8 → List UInt8 × List UInt8 × Bool
  | [], _ => ([], [], false)
  | b :: l, c => if b = c then ([], l, true) else (b :: (cut3 l c).1, (cut3 l c).2.1, (cut3 l c).2.2)

theorem index_cut (l : List UInt8) (c : UInt8) :
    (Lib.indexByte l c = -1 ∧ cut3 l c = (l, [], false)) ∨ (∃ i : Nat, Lib.indexByte l c = i ∧ i < l.length ∧ cut3 l c = (l.take i, l.drop (i + 1), true)) := by
  induction l with
  | nil => exact Or.inl ⟨rfl, rfl⟩
  | cons b l ih =>
    unfold Lib.indexByte cut3
    by_cases h : b = c
    · right
      exact ⟨0, by simp [h], by simp, by simp [h]⟩
    · have h' : (b == c) = false := by simpa using h
      rcases ih with ⟨h1, h2⟩ | ⟨i, h1, h2, h3⟩
      · left
        rw [h', h1, h2]
        simp [h]
      · right
        have hne : ((i : Int) == -1) = false := by rw [beq_eq_false_iff_ne]; omega
        refine ⟨i + 1, ?_, by simp; omega, ?_⟩
        · rw [h', h1, hne]; simp
        · rw [if_neg h, h3]; simp

/- the text of an id -/
def hopT (h : Int × Int) : List UInt8 := 47 :: (Lib.decDigits h.1.toNat ++ 64 :: Lib.decDigits h.2.toNat)
def showT (r n : Int) (L : List (Int × Int)) : List UInt8 := Lib.decDigits r.toNat ++ 46 :: Lib.decDigits n.toNat ++ L.flatMap hopT
end Go.Proofs.YtcmbppjfpdkblaaGreatDoor.Idn
