
/- Path and Org. -/
import Derived.Test.YtilkfgpcibdikaaChkP
namespace Go.Proofs.Ytilkfgpcibdikaa
open Go.RowKit

def pathE (r n : Int) (L : List (Int × Int)) : List Int := if Idn.mayB r n L = true then Idn.path r L else []
def orgE (r n : Int) (L : List (Int × Int)) : Int := (pathE r n L).getLastD (-1)
theorem may_len {r n : Int} {L : List (Int × Int)} (h : Idn.mayB r n L = true) : L.length ≤ 4 := by
  unfold Idn.mayB at h
  simp only [Bool.and_eq_true, decide_eq_true_eq] at h
  exact h.1.1.2

end Go.Proofs.Ytilkfgpcibdikaa
