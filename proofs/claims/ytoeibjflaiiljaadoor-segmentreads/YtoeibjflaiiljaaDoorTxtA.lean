
/- pack.Text lays Pk.text. -/
import Derived.Test.YtoeibjflaiiljaaDoorNum
import Derived.Test.YtoeibjflaiiljaaDoorStrs
namespace Go.Proofs.YtoeibjflaiiljaaDoor
open Go.RowKit

set_option maxHeartbeats 400000 in
set_option maxRecDepth 100000 in
theorem text_any (s : ByteArray) (w : World) (hs : s.size ≤ 140737488355328) :
    Calls Tryd.prog 34 #[.string s] w fun e w' => e = .returned (.string ⟨(Pk.text s.data.toList).toArray⟩) ∧ Gr w w' := by
  have hsz : s.data.toList.length = s.size := by simp
  have hl := Pk.num_len s.size
  have hadd := add_lists (Pk.num s.size) s.data.toList (by omega)
  rw [mk_data] at hadd
  have he : Pk.text s.data.toList = Pk.num s.size ++ s.data.toList := by rw [Pk.text, hsz]
  rw [he]
  have HN : Hid (∀ w : World, Calls Tryd.prog 43 #[.int .u64 s.size] w fun e w' => e = .returned (.string ⟨(Pk.num s.size).toArray⟩) ∧ Gr w w') := fun w => number_any s.size w (by omega)
  generalize Pk.num s.size = t at *
  clear he hsz hl
  go_enter Tryd.func34, Tryd.ntmps34
  go_wp2_with fail
  refine (HN.out _).mono ?_
  rintro e w1 ⟨rfl, hg1⟩
  go_wp2
  go_ret
  exact ⟨rfl, (by repeat (first | exact Gr.refl _ | refine Gr.alloc ?_ | refine Gr.drew ?_ | refine Gr.trans ?_ (by assumption)))⟩
end Go.Proofs.YtoeibjflaiiljaaDoor
