
/- Plain mathematics of pots: what may be, what goes, and what a row of doing, undoing and keeping comes to. -/
import Derived.Test.YtilkfgpcibdikaaCashM
namespace Go.Proofs.Ytilkfgpcibdikaa.Pot

def mayB (h i o : Int) : Bool := decide (0 ≤ i) && decide (i ≤ h) && decide (0 ≤ o) && decide (h + o ≤ 1000000000000000)
def chkE (h i o : Int) : Int := if mayB h i o = true then 0 else 2
def freeE (h i o : Int) : Int := if mayB h i o = true then h - i else 0
def roomE (h i o : Int) : Int := if mayB h i o = true then 1000000000000000 - h - o else 0
def argB (h i o a : Int) : Bool := mayB h i o && decide (1 ≤ a) && decide (a ≤ 1000000000000000)
def errE (h i o a m : Int) : Int := if argB h i o a = true then (if m < a then 50 else 0) else 2
def pick (e x : Int) : Int := if e = 0 then x else 0

theorem may_iff (h i o : Int) : mayB h i o = true ↔ 0 ≤ i ∧ i ≤ h ∧ 0 ≤ o ∧ h + o ≤ 1000000000000000 := by
  unfold mayB; simp only [Bool.and_eq_true, decide_eq_true_eq]; omega
theorem arg_iff (h i o a : Int) : argB h i o a = true ↔ (0 ≤ i ∧ i ≤ h ∧ 0 ≤ o ∧ h + o ≤ 1000000000000000) ∧ 1 ≤ a ∧ a ≤ 1000000000000000 := by
  unfold argB; rw [Bool.and_eq_true, Bool.and_eq_true, may_iff, decide_eq_true_eq, decide_eq_true_eq]; omega
theorem may_no (h i o : Int) (e : mayB h i o = false) : i < 0 ∨ h < i ∨ o < 0 ∨ 1000000000000000 < h + o := by
  have := may_iff h i o
  rw [e] at this
  simp at this
  omega
theorem arg_no (h i o a : Int) (e : argB h i o a = false) : mayB h i o = false ∨ a < 1 ∨ 1000000000000000 < a := by
  unfold argB at e
  cases hm : mayB h i o with
  | false => exact Or.inl rfl
  | true =>
    rw [hm] at e
    simp at e
    omega
theorem err_ok {h i o a m : Int} (h1 : argB h i o a = true) (h2 : ¬ m < a) : errE h i o a m = 0 := by unfold errE; rw [if_pos h1, if_neg h2]
theorem err_pot {h i o a m : Int} (h1 : argB h i o a = true) (h2 : m < a) : errE h i o a m = 50 := by unfold errE; rw [if_pos h1, if_pos h2]
theorem err_arg {h i o a m : Int} (h1 : argB h i o a = false) : errE h i o a m = 2 := by unfold errE; rw [if_neg (by rw [h1]; simp)]
theorem pick0 (x : Int) : pick 0 x = x := rfl
theorem pick50 (x : Int) : pick 50 x = 0 := rfl
theorem pick2 (x : Int) : pick 2 x = 0 := rfl
theorem err_cases (h i o a m : Int) : (errE h i o a m = 0 ∧ argB h i o a = true ∧ a ≤ m) ∨ (errE h i o a m = 50 ∧ argB h i o a = true ∧ m < a) ∨ (errE h i o a m = 2 ∧ argB h i o a = false) := by
  cases h1 : argB h i o a with
  | true =>
    by_cases h2 : m < a
    · exact Or.inr (Or.inl ⟨err_pot h1 h2, rfl, h2⟩)
    · exact Or.inl ⟨err_ok h1 h2, rfl, by omega⟩
  | false => exact Or.inr (Or.inr ⟨err_arg h1, rfl⟩)

def unit (d : Int) : Prop := d = -1 ∨ d = 0 ∨ d = 1
theorem unit_rng (x d a : Int) (hd : unit d) (h0 : 0 ≤ x) (h1 : x ≤ 1000000000000000) (a0 : 1 ≤ a) (a1 : a ≤ 1000000000000000) :
    (-9223372036854775808 ≤ d * a ∧ d * a ≤ 9223372036854775807) ∧ (-9223372036854775808 ≤ x + d * a ∧ x + d * a ≤ 9223372036854775807) := by
  rcases hd with rfl | rfl | rfl
  · rw [Int.neg_mul, Int.one_mul]; omega
  · rw [Int.zero_mul]; omega
  · rw [Int.one_mul]; omega

/- what is left where an amount goes: the most that may go -/
def mostDo (out : Bool) (h i o : Int) : Int := if out = true then freeE h i o else roomE h i o
def mostUn (out : Bool) (i o : Int) : Int := if out = true then o else i
def eDo (out : Bool) (h i o a : Int) : Int := errE h i o a (mostDo out h i o)
def eUn (out : Bool) (h i o a : Int) : Int := errE h i o a (mostUn out i o)
def sg (out : Bool) (x y : Int) : Int := if out = true then x else y
end Go.Proofs.Ytilkfgpcibdikaa.Pot
