/- cash: sums and products. -/
import Derived.Test.YtdliljijgokpjaaDoorIntA
import Derived.Test.YtdliljijgokpjaaDoorCashT
namespace Go.Proofs.YtdliljijgokpjaaDoor
open Go.RowKit

theorem fits_any (a : Int) (w : World) :
    Calls Tryd.prog 72 #[.int .i64 a] w fun e w' => e = .returned (.bool (decide (0 ≤ a) && decide (a ≤ 1000000000000000))) ∧ w' = w := by
  by_cases h0 : 0 ≤ a
  · by_cases h1 : a ≤ 1000000000000000
    · have HF : Hid ((decide (0 ≤ a) && decide (a ≤ 1000000000000000)) = true) := by show _ = _; simp [h0, h1]
      rw [HF.out]
      go_enter Tryd.func72, Tryd.ntmps72
      go_wp2
      go_ret
      exact ⟨rfl, rfl⟩
    · have HF : Hid ((decide (0 ≤ a) && decide (a ≤ 1000000000000000)) = false) := by show _ = _; simp [h1]
      rw [HF.out]
      go_enter Tryd.func72, Tryd.ntmps72
      go_wp2
      go_ret
      exact ⟨rfl, rfl⟩
  · have HF : Hid ((decide (0 ≤ a) && decide (a ≤ 1000000000000000)) = false) := by show _ = _; simp [h0]
    rw [HF.out]
    go_enter Tryd.func72, Tryd.ntmps72
    go_wp2
    go_ret
    exact ⟨rfl, rfl⟩
end Go.Proofs.YtdliljijgokpjaaDoor
