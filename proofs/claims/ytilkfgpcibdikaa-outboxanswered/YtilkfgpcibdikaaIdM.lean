
/- Plain mathematics of ids of sagas: which may be, their path, their order. -/
import Init.Data.List
namespace Go.Proofs.Ytilkfgpcibdikaa.Idn

/- a path of which every organisation is from 0 to 15 and stands once -/
def pathB : List Int → List Int → Bool
  | _, [] => true
  | seen, o :: r => decide (0 ≤ o) && decide (o < 16) && !(seen.contains o) && pathB (seen ++ [o]) r

def stepsB (l : List (Int × Int)) : Bool := l.all fun h => decide (0 ≤ h.1) && decide (h.1 < 8)

def path (r : Int) (l : List (Int × Int)) : List Int := r :: l.map (·.2)

def mayB (r n : Int) (l : List (Int × Int)) : Bool :=
  decide (1 ≤ n) && decide (n ≤ 999999) && decide (l.length ≤ 4) && stepsB l && pathB [] (path r l)


/- the hops alone, one by one -/
def hopsB (r : Int) : List Int → List (Int × Int) → Bool
  | _, [] => true
  | seen, h :: t => decide (0 ≤ h.1) && decide (h.1 < 8) && decide (0 ≤ h.2) && decide (h.2 < 16) && !(h.2 == r) && !(seen.contains h.2) && hopsB r (seen ++ [h.2]) t

theorem hops_path (r : Int) (l : List (Int × Int)) : ∀ seen, hopsB r seen l = (stepsB l && pathB (r :: seen) (l.map (·.2))) := by
  induction l with
  | nil => intro seen; rfl
  | cons h t ih =>
    intro seen
    have e1 : stepsB (h :: t) = (decide (0 ≤ h.1) && decide (h.1 < 8) && stepsB t) := rfl
    have e2 : pathB (r :: seen) ((h :: t).map (·.2)) = (decide (0 ≤ h.2) && decide (h.2 < 16) && !((r :: seen).contains h.2) && pathB ((r :: seen) ++ [h.2]) (t.map (·.2))) := rfl
    have e3 : (r :: seen).contains h.2 = (h.2 == r || seen.contains h.2) := rfl
    rw [hopsB, ih, e1, e2, e3, List.cons_append]
    generalize decide (0 ≤ h.1) = a
    generalize decide (h.1 < 8) = b
    generalize decide (0 ≤ h.2) = c
    generalize decide (h.2 < 16) = d
    generalize (h.2 == r) = e
    generalize seen.contains h.2 = f
    generalize stepsB t = g
    generalize pathB _ _ = k
    revert a b c d e f g k
    decide
theorem may_hops (r n : Int) (l : List (Int × Int)) : mayB r n l = (decide (1 ≤ n) && decide (n ≤ 999999) && decide (l.length ≤ 4) && decide (0 ≤ r) && decide (r < 16) && hopsB r [] l) := by
  have e2 : pathB [] (path r l) = (decide (0 ≤ r) && decide (r < 16) && pathB [r] (l.map (·.2))) := by
    show (decide (0 ≤ r) && decide (r < 16) && !(([] : List Int).contains r) && pathB ([] ++ [r]) (l.map (·.2))) = _
    simp
  rw [mayB, hops_path, e2]
  generalize decide (1 ≤ n) = a
  generalize decide (n ≤ 999999) = b
  generalize decide (l.length ≤ 4) = c
  generalize decide (0 ≤ r) = d
  generalize decide (r < 16) = e
  generalize stepsB l = g
  generalize pathB _ _ = k
  revert a b c d e g k
  decide
end Go.Proofs.Ytilkfgpcibdikaa.Idn
