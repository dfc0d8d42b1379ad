
/- The document's Delay, Next, Within; Total of the program and of the document. -/
import Derived.Test.YtilkfgpcibdikaaBoP
namespace Go.Proofs.Ytilkfgpcibdikaa
open Go.RowKit

set_option maxHeartbeats 1000000 in
set_option maxRecDepth 100000 in
theorem refDelay_any (n : Int) (w : World) :
    Calls Try.prog 37 #[.int .i64 n] w fun e w' => e = .returned (.int .i64 (Bo.delE n)) ∧ w' = w := by
  by_cases h0 : n < 1
  · have HE : Hid (Bo.delE n = 1) := Bo.del_base h0
    go_enter Try.func37, Try.ntmps37
    go_wp2
    go_ret
    exact ⟨by rw [HE.out]; rfl, rfl⟩
  · by_cases h1 : n = 1
    · subst h1
      go_enter Try.func37, Try.ntmps37
      go_wp2
      go_ret
      exact ⟨rfl, rfl⟩
    · by_cases h2 : n = 2
      · subst h2
        go_enter Try.func37, Try.ntmps37
        go_wp2
        go_ret
        exact ⟨rfl, rfl⟩
      · have HE : Hid (Bo.delE n = 8) := Bo.del_cap (by omega)
        go_enter Try.func37, Try.ntmps37
        go_wp2
        go_ret
        exact ⟨by rw [HE.out]; rfl, rfl⟩

end Go.Proofs.Ytilkfgpcibdikaa
