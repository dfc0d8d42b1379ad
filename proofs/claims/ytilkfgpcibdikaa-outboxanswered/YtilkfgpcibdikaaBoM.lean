
/- Plain mathematics of delays: what a number of tries waits, what a row of tries waits together, and how many delays fit into a span. -/
namespace Go.Proofs.Ytilkfgpcibdikaa.Bo

def delE (n : Int) : Int := if n < 1 then 1 else if n = 1 then 2 else if n = 2 then 4 else 8
def nextB (now : Int) : Bool := decide (0 ≤ now) && decide (now ≤ 1000000000)
def nextE (now n : Int) : Int := if nextB now = true then now + delE n else 0
def nextF (now : Int) : Int := if nextB now = true then 0 else 110
def sumE : List Int → Int
  | [] => 0
  | n :: l => delE n + sumE l
def totE (l : List Int) : Int := if 1000 < l.length then 0 else sumE l
def totF (l : List Int) : Int := if 1000 < l.length then 3 else 0
def capE (s : Int) : Int := if 1000000 < s then 1000000 else s
def inE (s : Int) : Int := if s < 1 then 0 else if s < 3 then 1 else if s < 7 then 2 else 3 + (s - 7) / 8
def withE (s : Int) : Int := inE (capE s)
/-- what the first n delays are together -/
def firstE : Nat → Int
  | 0 => 0
  | n + 1 => firstE n + delE n

theorem del_base {n : Int} (h : n < 1) : delE n = 1 := by unfold delE; rw [if_pos h]
theorem del_cap {n : Int} (h : 2 < n) : delE n = 8 := by unfold delE; rw [if_neg (by omega), if_neg (by omega), if_neg (by omega)]
theorem del_range (n : Int) : 1 ≤ delE n ∧ delE n ≤ 8 := by unfold delE; split <;> (try split) <;> (try split) <;> omega
theorem del_mono {a b : Int} (h : a ≤ b) : delE a ≤ delE b := by
  unfold delE; repeat' split
  all_goals omega
theorem del_twice (a : Int) : delE (a + 1) ≤ 2 * delE a := by
  unfold delE; repeat' split
  all_goals omega
/-- the document's own words: the base doubled as often, but at most the cap -/
theorem del_pow (n : Nat) : delE n = if (2 : Int) ^ n < 8 then 2 ^ n else 8 := by
  match n with
  | 0 => rfl
  | 1 => rfl
  | 2 => rfl
  | k + 3 =>
    have h : (0 : Int) < 2 ^ k := Int.pow_pos (by decide)
    have h2 : (2 : Int) ^ (k + 3) = 8 * 2 ^ k := by rw [Int.pow_succ, Int.pow_succ, Int.pow_succ]; omega
    rw [del_cap (by omega), if_neg (by omega)]
/-- doubling up to the cap, a step more -/
theorem del_step (n : Nat) : delE (n + 1) = if 2 * delE n < 8 then 2 * delE n else 8 := by
  unfold delE; repeat' split
  all_goals omega
theorem sum_nil : sumE [] = 0 := rfl
theorem sum_snoc (l : List Int) (n : Int) : sumE (l ++ [n]) = sumE l + delE n := by
  induction l with
  | nil => show delE n + 0 = 0 + delE n; omega
  | cons a l ih => show delE a + sumE (l ++ [n]) = delE a + sumE l + delE n; rw [ih]; omega
theorem sum_range (l : List Int) : (l.length : Int) ≤ sumE l ∧ sumE l ≤ 8 * l.length := by
  induction l with
  | nil => exact ⟨Int.le_refl 0, Int.le_refl 0⟩
  | cons a l ih =>
    have := del_range a
    show ((l.length + 1 : Nat) : Int) ≤ delE a + sumE l ∧ delE a + sumE l ≤ 8 * ((l.length + 1 : Nat) : Int)
    omega
theorem sum_take (l : List Int) (i : Nat) (h : i < l.length) : sumE (l.take (i + 1)) = sumE (l.take i) + delE l[i] := by
  rw [List.take_succ_eq_append_getElem h, sum_snoc]
theorem sum_take_range (l : List Int) (i : Nat) (h : i ≤ l.length) : 0 ≤ sumE (l.take i) ∧ sumE (l.take i) ≤ 8 * i := by
  have := sum_range (l.take i)
  rw [List.length_take, Nat.min_eq_left h] at this
  omega
theorem first_three : firstE 0 = 0 ∧ firstE 1 = 1 ∧ firstE 2 = 3 ∧ firstE 3 = 7 := ⟨rfl, rfl, rfl, rfl⟩
theorem first_far (n : Nat) (h : 3 ≤ n) : firstE n = 8 * (n : Int) - 17 := by
  induction n with
  | zero => omega
  | succ k ih =>
    show firstE k + delE k = _
    by_cases hk : 3 ≤ k
    · rw [ih hk, del_cap (by omega)]; omega
    · obtain rfl : k = 2 := by omega
      rfl
theorem first_step (n : Nat) : firstE (n + 1) = firstE n + delE n := rfl
theorem first_range (n : Nat) : (n : Int) ≤ firstE n ∧ firstE n ≤ 8 * n := by
  induction n with
  | zero => exact ⟨Int.le_refl 0, Int.le_refl 0⟩
  | succ k ih => have := del_range k; show ((k + 1 : Nat) : Int) ≤ firstE k + delE k ∧ firstE k + delE k ≤ 8 * ((k + 1 : Nat) : Int); omega
theorem first_mono {m n : Nat} (h : m ≤ n) : firstE m ≤ firstE n := by
  induction n with
  | zero => obtain rfl : m = 0 := by omega
            exact Int.le_refl _
  | succ k ih =>
    by_cases hk : m ≤ k
    · have := ih hk; have := del_range k; show firstE m ≤ firstE k + delE k; omega
    · obtain rfl : m = k + 1 := by omega
      exact Int.le_refl _
/-- what fits: the first ones are together at most the span, and one more is not -/
theorem in_fits (s : Int) (h : 0 ≤ s) : 0 ≤ inE s ∧ inE s ≤ s ∧ firstE (inE s).toNat ≤ s ∧ s < firstE ((inE s).toNat + 1) := by
  obtain ⟨f0, f1, f2, f3⟩ := first_three
  unfold inE
  split
  · obtain rfl : s = 0 := by omega
    exact ⟨by omega, by omega, by show firstE 0 ≤ 0; omega, by show (0 : Int) < firstE 1; omega⟩
  · split
    · exact ⟨by omega, by omega, by show firstE 1 ≤ s; omega, by show s < firstE 2; omega⟩
    · split
      · exact ⟨by omega, by omega, by show firstE 2 ≤ s; omega, by show s < firstE 3; omega⟩
      · have a := first_far (3 + (s - 7) / 8).toNat (by omega)
        have b := first_far ((3 + (s - 7) / 8).toNat + 1) (by omega)
        rw [a, b]
        omega
/-- and there is but one such number -/
theorem in_only {s : Int} {n : Nat} (h1 : firstE n ≤ s) (h2 : s < firstE (n + 1)) : inE s = n := by
  have hn := first_range n
  have := in_fits s (by omega)
  have ha : n ≤ (inE s).toNat := by
    apply Nat.le_of_not_lt; intro hc
    have := first_mono (m := (inE s).toNat + 1) (n := n) hc
    omega
  have hb : (inE s).toNat ≤ n := by
    apply Nat.le_of_not_lt; intro hc
    have := first_mono (m := n + 1) (n := (inE s).toNat) hc
    omega
  omega
theorem in_low {s : Int} (h : s < 1) : inE s = 0 := by unfold inE; rw [if_pos h]
theorem cap_range {s : Int} : capE s ≤ 1000000 := by unfold capE; split <;> omega
theorem with_range (s : Int) : 0 ≤ withE s ∧ withE s ≤ 125002 := by
  have := @cap_range s
  unfold withE inE; repeat' split
  all_goals omega
theorem with_is {s : Int} (h : s ≤ 1000000) : withE s = inE s := by unfold withE capE; rw [if_neg (by omega)]

end Go.Proofs.Ytilkfgpcibdikaa.Bo
