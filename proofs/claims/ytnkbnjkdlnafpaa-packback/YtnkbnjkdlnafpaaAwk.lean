/- awake answers true, and turns nothing that was there. -/
import Derived.Test.YtnkbnjkdlnafpaaTakeS
import Derived.Test.YtnkbnjkdlnafpaaTxt
namespace Go.Proofs.Ytnkbnjkdlnafpaa
open Go.RowKit

set_option maxHeartbeats 1000000 in
set_option maxRecDepth 100000 in
theorem awake_any (w : World) : Calls Try.prog 13 #[] w fun e w' => e = .returned (.bool true) ∧ Gr w w' := by
  have H1 : Hid (∀ w : World, Calls Try.prog 19 #[.string ⟨#[172, 2]⟩, .int .i64 0] w fun e w' => e = .returned (.tuple #[.int .u64 300, .int .i64 2, .int .i64 0]) ∧ w' = w) := fun w => takeNumber_any ⟨#[172, 2]⟩ 0 w (by decide)
  have H2 : Hid (∀ w : World, Calls Try.prog 21 #[.string ⟨#[1]⟩, .int .i64 0] w fun e w' => e = .returned (.tuple #[.int .i64 (-1), .int .i64 1, .int .i64 0]) ∧ w' = w) := fun w => takeSigned_any ⟨#[1]⟩ 0 w (by decide)
  have H3 : Hid (∀ w : World, Calls Try.prog 19 #[.string ⟨#[128, 0]⟩, .int .i64 0] w fun e w' => e = .returned (.tuple #[.int .u64 0, .int .i64 0, .int .i64 11]) ∧ w' = w) := fun w => takeNumber_any ⟨#[128, 0]⟩ 0 w (by decide)
  have H4 : Hid (∀ w : World, Calls Try.prog 9 #[.int .u64 300] w fun e w' => e = .returned (.string ⟨#[172, 2]⟩) ∧ Gr w w') := fun w => number_any 300 w (by decide)
  have H5 : Hid (∀ (w : World) (b : Nat), b < w.heap.size → w.cell? ⟨b, 0, none⟩ = some (.string ⟨#[97]⟩) → w.cell? ⟨b, 1, none⟩ = some (.string ⟨#[]⟩) →
      Calls Try.prog 17 #[.slice (some ⟨b, 0, none⟩) 2 2] w fun e w' => e = .returned (.string ⟨#[2, 1, 97, 0]⟩) ∧ Gr w w') := by
    intro w b hb h0 h1
    refine texts_any [⟨#[97]⟩, ⟨#[]⟩] (some ⟨b, 0, none⟩) 2 w ?_ (by decide) (by decide)
    intro j hj
    match j, hj with
    | 0, _ => exact ⟨b, 0, rfl, hb, h0⟩
    | 1, _ => exact ⟨b, 0, rfl, hb, h1⟩
  go_enter Try.func13, Try.ntmps13
  go_wp2_with fail
  refine (H1.out _).mono ?_
  rintro e w1 ⟨rfl, rfl⟩
  go_wp2_with fail
  refine (H2.out _).mono ?_
  rintro e w1 ⟨rfl, rfl⟩
  go_wp2_with fail
  refine (H3.out _).mono ?_
  rintro e w1 ⟨rfl, rfl⟩
  go_wp2_with fail
  refine (H4.out _).mono ?_
  rintro e w1 ⟨rfl, hg1⟩
  go_wp2_with fail
  refine (H5.out _ _ ?_ ?_ ?_).mono ?_
  · simp
  · simp
  · simp
  rintro e w2 ⟨rfl, hg2⟩
  go_wp2
  go_ret
  exact ⟨by simp, (by repeat (first | exact Gr.refl _ | refine Gr.alloc ?_ | refine Gr.drew ?_ | refine Gr.trans ?_ (by assumption)))⟩
end Go.Proofs.Ytnkbnjkdlnafpaa
