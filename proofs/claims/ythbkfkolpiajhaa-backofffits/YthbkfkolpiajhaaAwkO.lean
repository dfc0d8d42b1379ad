
/- backoff: some answers that the document fixes. -/
import Derived.Test.YthbkfkolpiajhaaBoR
namespace Go.Proofs.Ythbkfkolpiajhaa
open Go.RowKit

set_option maxHeartbeats 1000000 in
set_option maxRecDepth 100000 in
theorem awake_any (w : World) : Calls Try.prog 11 #[] w fun e w' => e = .returned (.bool true) ∧ Gr w w' := by
  have H1 : Hid (Calls Try.prog 7 #[.int .i64 10, .int .i64 2] w fun e w' => e = .returned (.tuple #[.int .i64 14, .int .i64 0]) ∧ w' = w) := next_any 10 2 w
  have H2 : Hid (Calls Try.prog 7 #[.int .i64 (-1), .int .i64 2] w fun e w' => e = .returned (.tuple #[.int .i64 0, .int .i64 110]) ∧ w' = w) := next_any (-1) 2 w
  have H3 : Hid (∀ w1 ad, IntsAt w1 ad [0, 1, 9] → Calls Try.prog 12 #[.slice ad 3 3] w1 fun e w' => e = .returned (.tuple #[.int .i64 11, .int .i64 0]) ∧ w' = w1) := fun w1 ad h => total_any [0, 1, 9] ad 3 w1 h (by decide)
  have H4 : Hid (∀ w1, Calls Try.prog 14 #[.int .i64 15] w1 fun e w' => e = .returned (.int .i64 4) ∧ w' = w1) := fun w1 => within_any 15 w1 (by decide)
  go_enter Try.func11, Try.ntmps11
  go_wp2_with fail
  refine H1.out.mono ?_
  rintro e w1 ⟨rfl, hww⟩; obtain rfl := hww.symm
  go_wp2_with fail
  refine H2.out.mono ?_
  rintro e w1 ⟨rfl, hww⟩; obtain rfl := hww.symm
  go_wp2_with fail
  refine (H3.out _ _ (ints_lit3 _ _ _ _ _ _ rfl)).mono ?_
  rintro e w1 ⟨rfl, hw1⟩; subst hw1
  go_wp2_with fail
  refine (H4.out _).mono ?_
  rintro e w1 ⟨rfl, hw1⟩; subst hw1
  go_wp2
  go_ret
  exact ⟨rfl, (by repeat (first | exact Gr.refl _ | refine Gr.alloc ?_ | refine Gr.drew ?_ | refine Gr.trans ?_ (by assumption)))⟩
end Go.Proofs.Ythbkfkolpiajhaa
