/- awake: some answers that the document fixes. -/
import Derived.Test.YtjifhfnigngcjaaPotD
namespace Go.Proofs.Ytjifhfnigngcjaa
open Go.RowKit

set_option maxHeartbeats 4000000 in
set_option maxRecDepth 100000 in
theorem awake_any (w : World) : Calls Try.prog 15 #[] w fun e w' => e = .returned (.bool true) ∧ Gr w w' := by
  have H1 : Hid (∀ w', Calls Try.prog 16 #[.agg #[.int .i64 10, .int .i64 0, .int .i64 0], .bool true, .int .i64 7] w' fun e w2 => e = .returned (.tuple #[.agg #[.int .i64 3, .int .i64 0, .int .i64 7], .int .i64 0]) ∧ Gr w' w2) := fun w' => do_any 10 0 0 7 true w' (by omega) (by omega)
  have H2 : Hid (∀ w', Calls Try.prog 16 #[.agg #[.int .i64 3, .int .i64 0, .int .i64 7], .bool false, .int .i64 5] w' fun e w2 => e = .returned (.tuple #[.agg #[.int .i64 8, .int .i64 5, .int .i64 7], .int .i64 0]) ∧ Gr w' w2) := fun w' => do_any 3 0 7 5 false w' (by omega) (by omega)
  have H3 : Hid (∀ w', Calls Try.prog 16 #[.agg #[.int .i64 8, .int .i64 5, .int .i64 7], .bool true, .int .i64 4] w' fun e w2 => e = .returned (.tuple #[.agg #[.int .i64 0, .int .i64 0, .int .i64 0], .int .i64 50]) ∧ Gr w' w2) := fun w' => do_any 8 5 7 4 true w' (by omega) (by omega)
  have H4 : Hid (∀ w', Calls Try.prog 18 #[.agg #[.int .i64 8, .int .i64 5, .int .i64 7], .bool true, .int .i64 7] w' fun e w2 => e = .returned (.tuple #[.agg #[.int .i64 15, .int .i64 5, .int .i64 0], .int .i64 0]) ∧ Gr w' w2) := fun w' => undo_any 8 5 7 7 true w' (by omega) (by omega)
  have H5 : Hid (∀ w', Calls Try.prog 11 #[.agg #[.int .i64 8, .int .i64 5, .int .i64 7]] w' fun e w2 => e = .returned (.int .i64 3) ∧ Gr w' w2) := fun w' => free_any 8 5 7 w' (by omega) (by omega)
  have H6 : Hid (∀ w', Calls Try.prog 9 #[.agg #[.int .i64 0, .int .i64 1, .int .i64 0]] w' fun e w2 => e = .returned (.int .i64 2) ∧ Gr w' w2) := fun w' => check_any 0 1 0 w' (by omega) (by omega)
  go_enter Try.func15, Try.ntmps15
  go_wp2_with fail
  refine (H1.out _).mono ?_
  rintro e w1 ⟨rfl, hg1⟩
  go_wp2_with fail
  refine (H2.out _).mono ?_
  rintro e w2 ⟨rfl, hg2⟩
  have g2 : Gr w w2 := (by (repeat' (first | with_reducible exact Gr.refl _ | with_reducible refine Gr.set ?_ _ ?_ _ | with_reducible refine Gr.alloc ?_ | with_reducible refine Gr.drew ?_ | with_reducible refine Gr.trans ?_ (by assumption))) <;> (first | (simp; done) | (simp; omega) | omega))
  have P := (BoxAt.new w1 _ _ _ _ _ rfl).gr hg2
  clear hg2 hg1
  obtain ⟨p0, p1, p2, p3, p4, p5, p6⟩ := P
  go_wp2_with fail
  refine (H3.out _).mono ?_
  rintro e w3 ⟨rfl, hg3⟩
  have g3 : Gr w w3 := (by (repeat' (first | with_reducible exact Gr.refl _ | with_reducible refine Gr.set ?_ _ ?_ _ | with_reducible refine Gr.alloc ?_ | with_reducible refine Gr.drew ?_ | with_reducible refine Gr.trans ?_ (by assumption))) <;> (first | (simp; done) | (simp; omega) | omega))
  have Q := (BoxAt.new w2 _ _ _ _ _ rfl).gr hg3
  have P := (BoxAt.mk p0 p1 p2 p3 p4 p5 p6).gr ((Gr.refl _).alloc.trans hg3)
  clear p0 p1 p2 p3 p4 p5 p6 hg3 g2
  obtain ⟨p0, p1, p2, p3, p4, p5, p6⟩ := P
  obtain ⟨q0, q1, q2, q3, q4, q5, q6⟩ := Q
  go_wp2_with fail
  refine (H4.out _).mono ?_
  rintro e w4 ⟨rfl, hg4⟩
  have g4 : Gr w w4 := (by (repeat' (first | with_reducible exact Gr.refl _ | with_reducible refine Gr.set ?_ _ ?_ _ | with_reducible refine Gr.alloc ?_ | with_reducible refine Gr.drew ?_ | with_reducible refine Gr.trans ?_ (by assumption))) <;> (first | (simp; done) | (simp; omega) | omega))
  have P := (BoxAt.mk p0 p1 p2 p3 p4 p5 p6).gr ((Gr.refl _).alloc.trans hg4)
  have Q := (BoxAt.mk q0 q1 q2 q3 q4 q5 q6).gr ((Gr.refl _).alloc.trans hg4)
  clear p0 p1 p2 p3 p4 p5 p6 q0 q1 q2 q3 q4 q5 q6 hg4 g3
  obtain ⟨p0, p1, p2, p3, p4, p5, p6⟩ := P
  obtain ⟨q0, q1, q2, q3, q4, q5, q6⟩ := Q
  go_wp2_with fail
  refine (H5.out _).mono ?_
  rintro e w5 ⟨rfl, hg5⟩
  have g5 : Gr w w5 := (by (repeat' (first | with_reducible exact Gr.refl _ | with_reducible refine Gr.set ?_ _ ?_ _ | with_reducible refine Gr.alloc ?_ | with_reducible refine Gr.drew ?_ | with_reducible refine Gr.trans ?_ (by assumption))) <;> (first | (simp; done) | (simp; omega) | omega))
  have R := (BoxAt.new w4 _ _ _ _ _ rfl).gr hg5
  clear p0 p1 p2 p3 p4 p5 p6 q0 q1 q2 q3 q4 q5 q6 hg5 g4
  obtain ⟨r0, r1, r2, r3, r4, r5, r6⟩ := R
  go_wp2_with fail
  refine (H6.out _).mono ?_
  rintro e w6 ⟨rfl, hg6⟩
  go_wp2
  go_ret
  exact ⟨rfl, (by (repeat' (first | with_reducible exact Gr.refl _ | with_reducible refine Gr.set ?_ _ ?_ _ | with_reducible refine Gr.alloc ?_ | with_reducible refine Gr.drew ?_ | with_reducible refine Gr.trans ?_ (by assumption))) <;> (first | (simp; done) | (simp; omega) | omega))⟩
end Go.Proofs.Ytjifhfnigngcjaa
