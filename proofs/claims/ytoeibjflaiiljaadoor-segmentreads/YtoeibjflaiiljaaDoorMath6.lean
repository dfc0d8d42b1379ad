
/- Taking texts, one behind the other. -/
import Derived.Test.YtoeibjflaiiljaaDoorMath5
namespace Pk
def takeList (s : List UInt8) : Nat → Nat → List (List UInt8) → List (List UInt8) × Nat × Nat
  | 0, p, acc => (acc, p, 0)
  | n + 1, p, acc => if (takeText s p).2.2 ≠ 0 then ([], 0, (takeText s p).2.2) else takeList s n (takeText s p).2.1 (acc ++ [(takeText s p).1])
def takeTexts (s : List UInt8) (p : Int) : List (List UInt8) × Nat × Nat :=
  if (takeNum s p).2.2 ≠ 0 then ([], 0, (takeNum s p).2.2) else takeList s (takeNum s p).1 (takeNum s p).2.1 []
theorem takeText_spec (s : List UInt8) (p : Int) :
    ((takeText s p).2.2 = 0 ∧ 0 ≤ p ∧ p < (takeText s p).2.1 ∧ (takeText s p).2.1 ≤ s.length ∧ (takeText s p).1.length ≤ s.length) ∨
    ((takeText s p).1 = [] ∧ (takeText s p).2.1 = 0 ∧ ((takeText s p).2.2 = 2 ∨ (takeText s p).2.2 = 10 ∨ (takeText s p).2.2 = 11)) := by
  unfold takeText
  rcases takeNum_spec s p with ⟨h1, h2, h3, h4, h5⟩ | h | h | h
  · rw [if_neg (by simp [h1])]
    by_cases hb : s.length - (takeNum s p).2.1 < (takeNum s p).1
    · rw [if_pos hb]; right; simp
    · rw [if_neg hb]
      left
      refine ⟨rfl, h3, ?_, ?_, ?_⟩
      · show p < (((takeNum s p).2.1 + (takeNum s p).1 : Nat) : Int); omega
      · show (takeNum s p).2.1 + (takeNum s p).1 ≤ s.length; omega
      · show ((s.drop (takeNum s p).2.1).take (takeNum s p).1).length ≤ s.length
        rw [List.length_take, List.length_drop]; omega
  all_goals
    rw [if_pos (by rw [h]; simp)]
    right; rw [h]; simp
theorem takeList_len (s : List UInt8) (n : Nat) : ∀ (p : Nat) (acc : List (List UInt8)), acc.length ≤ p → p ≤ s.length →
    (takeList s n p acc).1.length ≤ s.length := by
  induction n with
  | zero => intro p acc h1 h2; simp only [takeList]; omega
  | succ n ih =>
    intro p acc h1 h2
    rw [takeList]
    rcases takeText_spec s (p : Int) with ⟨h3, h4, h5, h6, _⟩ | ⟨h3, h4, h5⟩
    · rw [if_neg (by simp [h3])]
      exact ih _ _ (by simp; omega) h6
    · rw [if_pos (by omega)]; simp
theorem takeTexts_len (s : List UInt8) (p : Int) : (takeTexts s p).1.length ≤ s.length := by
  unfold takeTexts
  rcases takeNum_spec s p with ⟨h1, h2, h3, h4, h5⟩ | h | h | h
  · rw [if_neg (by simp [h1])]
    exact takeList_len s _ _ [] (by simp) h5
  all_goals
    rw [if_pos (by rw [h]; simp)]; simp
end Pk
