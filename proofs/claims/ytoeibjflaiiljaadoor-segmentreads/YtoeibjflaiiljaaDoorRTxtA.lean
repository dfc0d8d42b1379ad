
/- The document's Text lays Pk.text. -/
import Derived.Test.YtoeibjflaiiljaaDoorRefNum
import Derived.Test.YtoeibjflaiiljaaDoorStrs
namespace Go.Proofs.YtoeibjflaiiljaaDoor
open Go.RowKit

set_option maxHeartbeats 400000 in
set_option maxRecDepth 100000 in
theorem refText_any (s : ByteArray) (w : World) (hs : s.size ≤ 140737488355328) :
    Calls Tryd.prog 19 #[.string s] w fun e w' => e = .returned (.string ⟨(Pk.text s.data.toList).toArray⟩) ∧ Gr w w' := by
  have hsz : s.data.toList.length = s.size := by simp
  have hl := Pk.num_len s.size
  have hadd := add_lists (Pk.num s.size) s.data.toList (by omega)
  rw [mk_data] at hadd
  have he : Pk.text s.data.toList = Pk.num s.size ++ s.data.toList := by rw [Pk.text, hsz]
  rw [he]
  have HN : Hid (∀ w : World, Calls Tryd.prog 37 #[.int .u64 s.size] w fun e w' => e = .returned (.string ⟨(Pk.num s.size).toArray⟩) ∧ Gr w w') := fun w => refNumber_any 9 s.size w (by omega) (by omega) (by omega)
  generalize Pk.num s.size = t at *
  clear he hsz hl
  go_enter Tryd.func19, Tryd.ntmps19
  go_wp2_with fail
  refine (HN.out _).mono ?_
  rintro e w1 ⟨rfl, hg1⟩
  go_wp2
  go_ret
  exact ⟨rfl, (by repeat (first | exact Gr.refl _ | refine Gr.alloc ?_ | refine Gr.drew ?_ | refine Gr.trans ?_ (by assumption)))⟩
end Go.Proofs.YtoeibjflaiiljaaDoor
