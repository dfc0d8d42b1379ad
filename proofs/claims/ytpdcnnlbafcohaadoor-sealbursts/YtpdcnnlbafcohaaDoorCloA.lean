/- strings.Clone answers its string. -/
import Derived.Test.YtpdcnnlbafcohaaDoorBase
import Derived.Test.YtpdcnnlbafcohaaDoorShelf
namespace Go.Proofs.YtpdcnnlbafcohaaDoor
open Go.RowKit

set_option maxHeartbeats 400000 in
theorem clone_any (s : ByteArray) (w : World) (hs : s.size ≤ 140737488355328) : Calls Tryd.prog 26 #[.string s] w fun e w' => e = .returned (.string s) ∧ Gr w w' := by
  have HC : Hid (∀ w : World, Calls Tryd.prog 33 #[.string s] w fun e w' => e = .returned (.string s) ∧ Below w.heap.size w w') := fun w => Tryd.stringslite_Clone s w (by omega)
  go_enter Tryd.func26, Tryd.ntmps26
  go_wp2_with fail
  refine (HC.out _).mono ?_
  rintro e w1 ⟨rfl, hb⟩
  go_wp2
  go_ret
  exact ⟨rfl, ⟨hb⟩⟩

end Go.Proofs.YtpdcnnlbafcohaaDoor
