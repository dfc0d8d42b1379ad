/- For every input the law PotMoves answers true: any amount goes out of any pot, or into it, and is undone, and kept, as the document says, or refused. -/
import Derived.Test.YtjifhfnigngcjaaPotK
import Derived.Test.YtjifhfnigngcjaaPotR
import Derived.Test.YtjifhfnigngcjaaOpenP
namespace Go.Proofs.Ytjifhfnigngcjaa
open Go.ChangeShapes Go.WideShapes Go.ChangeAt Go.RowKit

set_option maxHeartbeats 8000000 in
set_option maxRecDepth 100000 in
theorem potMoves_walk (h i o a : Int) (out : Bool) (w : World) (hb : inB h i o) :
    Calls Try.prog 4 #[.agg #[.int .i64 h, .int .i64 i, .int .i64 o], .bool out, .int .i64 a] w fun e w' => e = .returned (.bool true) ∧ Gr w w' := by
  have HA : Hid (∀ w', Calls Try.prog 15 #[] w' fun e w2 => e = .returned (.bool true) ∧ Gr w' w2) := fun w' => awake_any w'
  have H1 : Hid (∀ w', Calls Try.prog 16 #[.agg #[.int .i64 h, .int .i64 i, .int .i64 o], .bool out, .int .i64 a] w' fun e w2 => e = .returned (.tuple #[.agg #[.int .i64 (Pot.pick (Pot.eDo out h i o a) (h + Pot.sg out (-1) 1 * a)), .int .i64 (Pot.pick (Pot.eDo out h i o a) (i + Pot.sg out 0 1 * a)), .int .i64 (Pot.pick (Pot.eDo out h i o a) (o + Pot.sg out 1 0 * a))], .int .i64 (Pot.eDo out h i o a)]) ∧ Gr w' w2) := fun w' => do_any h i o a out w' hb.2.2.2 hb.1.2
  have H2 : Hid (∀ w', Calls Try.prog 17 #[.agg #[.int .i64 h, .int .i64 i, .int .i64 o], .bool out, .int .i64 a] w' fun e w2 => e = .returned (.tuple #[.agg #[.int .i64 (Pot.pick (Pot.eDo out h i o a) (h + Pot.sg out (-1) 1 * a)), .int .i64 (Pot.pick (Pot.eDo out h i o a) (i + Pot.sg out 0 1 * a)), .int .i64 (Pot.pick (Pot.eDo out h i o a) (o + Pot.sg out 1 0 * a))], .int .i64 (Pot.eDo out h i o a)]) ∧ Gr w' w2) := fun w' => refDo_any h i o a out w'
  have H3 : Hid (∀ w', Calls Try.prog 18 #[.agg #[.int .i64 h, .int .i64 i, .int .i64 o], .bool out, .int .i64 a] w' fun e w2 => e = .returned (.tuple #[.agg #[.int .i64 (Pot.pick (Pot.eUn out h i o a) (h + Pot.sg out 1 (-1) * a)), .int .i64 (Pot.pick (Pot.eUn out h i o a) (i + Pot.sg out 0 (-1) * a)), .int .i64 (Pot.pick (Pot.eUn out h i o a) (o + Pot.sg out (-1) 0 * a))], .int .i64 (Pot.eUn out h i o a)]) ∧ Gr w' w2) := fun w' => undo_any h i o a out w' hb.2.2.2 hb.1.2
  have H4 : Hid (∀ w', Calls Try.prog 19 #[.agg #[.int .i64 h, .int .i64 i, .int .i64 o], .bool out, .int .i64 a] w' fun e w2 => e = .returned (.tuple #[.agg #[.int .i64 (Pot.pick (Pot.eUn out h i o a) (h + Pot.sg out 1 (-1) * a)), .int .i64 (Pot.pick (Pot.eUn out h i o a) (i + Pot.sg out 0 (-1) * a)), .int .i64 (Pot.pick (Pot.eUn out h i o a) (o + Pot.sg out (-1) 0 * a))], .int .i64 (Pot.eUn out h i o a)]) ∧ Gr w' w2) := fun w' => refUndo_any h i o a out w'
  have H5 : Hid (∀ w', Calls Try.prog 20 #[.agg #[.int .i64 h, .int .i64 i, .int .i64 o], .bool out, .int .i64 a] w' fun e w2 => e = .returned (.tuple #[.agg #[.int .i64 (Pot.pick (Pot.eUn out h i o a) (h + Pot.sg out 0 0 * a)), .int .i64 (Pot.pick (Pot.eUn out h i o a) (i + Pot.sg out 0 (-1) * a)), .int .i64 (Pot.pick (Pot.eUn out h i o a) (o + Pot.sg out (-1) 0 * a))], .int .i64 (Pot.eUn out h i o a)]) ∧ Gr w' w2) := fun w' => keep_any h i o a out w' hb.2.2.2 hb.1.2
  have H6 : Hid (∀ w', Calls Try.prog 21 #[.agg #[.int .i64 h, .int .i64 i, .int .i64 o], .bool out, .int .i64 a] w' fun e w2 => e = .returned (.tuple #[.agg #[.int .i64 (Pot.pick (Pot.eUn out h i o a) (h + Pot.sg out 0 0 * a)), .int .i64 (Pot.pick (Pot.eUn out h i o a) (i + Pot.sg out 0 (-1) * a)), .int .i64 (Pot.pick (Pot.eUn out h i o a) (o + Pot.sg out (-1) 0 * a))], .int .i64 (Pot.eUn out h i o a)]) ∧ Gr w' w2) := fun w' => refKeep_any h i o a out w'
  generalize Pot.pick (Pot.eDo out h i o a) (h + Pot.sg out (-1) 1 * a) = x00 at *
  generalize Pot.pick (Pot.eDo out h i o a) (i + Pot.sg out 0 1 * a) = x01 at *
  generalize Pot.pick (Pot.eDo out h i o a) (o + Pot.sg out 1 0 * a) = x02 at *
  generalize Pot.pick (Pot.eUn out h i o a) (h + Pot.sg out 1 (-1) * a) = x10 at *
  generalize Pot.pick (Pot.eUn out h i o a) (i + Pot.sg out 0 (-1) * a) = x11 at *
  generalize Pot.pick (Pot.eUn out h i o a) (o + Pot.sg out (-1) 0 * a) = x12 at *
  generalize Pot.pick (Pot.eUn out h i o a) (h + Pot.sg out 0 0 * a) = x20 at *
  generalize Pot.pick (Pot.eUn out h i o a) (i + Pot.sg out 0 (-1) * a) = x21 at *
  generalize Pot.pick (Pot.eUn out h i o a) (o + Pot.sg out (-1) 0 * a) = x22 at *
  generalize Pot.eDo out h i o a = y0 at *
  generalize Pot.eUn out h i o a = y1 at *
  clear hb
  have e0 : (y0 == y0) = true := by simp
  have e1 : (y1 == y1) = true := by simp
  go_enter Try.func4, Try.ntmps4
  go_wp2_with fail
  refine (H1.out _).mono ?_
  rintro e w1 ⟨rfl, hg1⟩
  have g1 : Gr w w1 := (by (repeat' (first | with_reducible exact Gr.refl _ | with_reducible refine Gr.set ?_ _ ?_ _ | with_reducible refine Gr.alloc ?_ | with_reducible refine Gr.drew ?_ | with_reducible refine Gr.trans ?_ (by assumption))) <;> (first | (simp; done) | (simp; omega) | omega))
  have P := (BoxAt.new w _ _ _ _ _ rfl).gr hg1
  clear hg1
  have ⟨P0, P1, P2, _, _, _, P6⟩ := P
  go_wp2_with fail
  refine (H2.out _).mono ?_
  rintro e w2 ⟨rfl, hg2⟩
  have g2 : Gr w w2 := (by (repeat' (first | with_reducible exact Gr.refl _ | with_reducible refine Gr.set ?_ _ ?_ _ | with_reducible refine Gr.alloc ?_ | with_reducible refine Gr.drew ?_ | with_reducible refine Gr.trans ?_ (by assumption))) <;> (first | (simp; done) | (simp; omega) | omega))
  have P := P.gr ((Gr.refl _).alloc.trans hg2)
  have B := (BoxAt.new w1 _ _ _ _ _ rfl).gr hg2
  clear g1
  clear hg2
  clear P0 P1 P2 P6
  have ⟨P0, P1, P2, _, _, _, P6⟩ := P
  have ⟨B0, B1, B2, _, _, _, B6⟩ := B
  go_wp2_with fail
  refine (H3.out _).mono ?_
  rintro e w3 ⟨rfl, hg3⟩
  have g3 : Gr w w3 := (by (repeat' (first | with_reducible exact Gr.refl _ | with_reducible refine Gr.set ?_ _ ?_ _ | with_reducible refine Gr.alloc ?_ | with_reducible refine Gr.drew ?_ | with_reducible refine Gr.trans ?_ (by assumption))) <;> (first | (simp; done) | (simp; omega) | omega))
  have P := P.gr ((Gr.refl _).alloc.trans hg3)
  have B := B.gr ((Gr.refl _).alloc.trans hg3)
  have C := (BoxAt.new w2 _ _ _ _ _ rfl).gr hg3
  clear g2
  clear hg3
  clear P0 P1 P2 P6 B0 B1 B2 B6
  have ⟨P0, P1, P2, _, _, _, P6⟩ := P
  have ⟨B0, B1, B2, _, _, _, B6⟩ := B
  have ⟨C0, C1, C2, _, _, _, C6⟩ := C
  go_wp2_with fail
  refine (H4.out _).mono ?_
  rintro e w4 ⟨rfl, hg4⟩
  have g4 : Gr w w4 := (by (repeat' (first | with_reducible exact Gr.refl _ | with_reducible refine Gr.set ?_ _ ?_ _ | with_reducible refine Gr.alloc ?_ | with_reducible refine Gr.drew ?_ | with_reducible refine Gr.trans ?_ (by assumption))) <;> (first | (simp; done) | (simp; omega) | omega))
  have P := P.gr ((Gr.refl _).alloc.trans hg4)
  have B := B.gr ((Gr.refl _).alloc.trans hg4)
  have C := C.gr ((Gr.refl _).alloc.trans hg4)
  have D := (BoxAt.new w3 _ _ _ _ _ rfl).gr hg4
  clear g3
  clear hg4
  clear P0 P1 P2 P6 B0 B1 B2 B6 C0 C1 C2 C6
  have ⟨P0, P1, P2, _, _, _, P6⟩ := P
  have ⟨B0, B1, B2, _, _, _, B6⟩ := B
  have ⟨C0, C1, C2, _, _, _, C6⟩ := C
  have ⟨D0, D1, D2, _, _, _, D6⟩ := D
  go_wp2_with fail
  refine (H5.out _).mono ?_
  rintro e w5 ⟨rfl, hg5⟩
  have g5 : Gr w w5 := (by (repeat' (first | with_reducible exact Gr.refl _ | with_reducible refine Gr.set ?_ _ ?_ _ | with_reducible refine Gr.alloc ?_ | with_reducible refine Gr.drew ?_ | with_reducible refine Gr.trans ?_ (by assumption))) <;> (first | (simp; done) | (simp; omega) | omega))
  have P := P.gr ((Gr.refl _).alloc.trans hg5)
  have B := B.gr ((Gr.refl _).alloc.trans hg5)
  have C := C.gr ((Gr.refl _).alloc.trans hg5)
  have D := D.gr ((Gr.refl _).alloc.trans hg5)
  have E := (BoxAt.new w4 _ _ _ _ _ rfl).gr hg5
  clear g4
  clear hg5
  clear P0 P1 P2 P6 B0 B1 B2 B6 C0 C1 C2 C6 D0 D1 D2 D6
  have ⟨P0, P1, P2, _, _, _, P6⟩ := P
  have ⟨B0, B1, B2, _, _, _, B6⟩ := B
  have ⟨C0, C1, C2, _, _, _, C6⟩ := C
  have ⟨D0, D1, D2, _, _, _, D6⟩ := D
  have ⟨E0, E1, E2, _, _, _, E6⟩ := E
  go_wp2_with fail
  refine (H6.out _).mono ?_
  rintro e w6 ⟨rfl, hg6⟩
  have g6 : Gr w w6 := (by (repeat' (first | with_reducible exact Gr.refl _ | with_reducible refine Gr.set ?_ _ ?_ _ | with_reducible refine Gr.alloc ?_ | with_reducible refine Gr.drew ?_ | with_reducible refine Gr.trans ?_ (by assumption))) <;> (first | (simp; done) | (simp; omega) | omega))
  have P := P.gr ((Gr.refl _).alloc.trans hg6)
  have B := B.gr ((Gr.refl _).alloc.trans hg6)
  have C := C.gr ((Gr.refl _).alloc.trans hg6)
  have D := D.gr ((Gr.refl _).alloc.trans hg6)
  have E := E.gr ((Gr.refl _).alloc.trans hg6)
  have F := (BoxAt.new w5 _ _ _ _ _ rfl).gr hg6
  clear g5
  clear hg6
  clear P0 P1 P2 P6 B0 B1 B2 B6 C0 C1 C2 C6 D0 D1 D2 D6 E0 E1 E2 E6
  have ⟨P0, P1, P2, _, _, _, P6⟩ := P
  have ⟨B0, B1, B2, _, _, _, B6⟩ := B
  have ⟨C0, C1, C2, _, _, _, C6⟩ := C
  have ⟨D0, D1, D2, _, _, _, D6⟩ := D
  have ⟨E0, E1, E2, _, _, _, E6⟩ := E
  have ⟨F0, F1, F2, _, _, _, F6⟩ := F
  go_wp2_with fail
  refine (HA.out _).mono ?_
  rintro e w7 ⟨rfl, hg7⟩
  go_wp2
  go_ret
  exact ⟨rfl, (by (repeat' (first | with_reducible exact Gr.refl _ | with_reducible refine Gr.set ?_ _ ?_ _ | with_reducible refine Gr.alloc ?_ | with_reducible refine Gr.drew ?_ | with_reducible refine Gr.trans ?_ (by assumption))) <;> (first | (simp; done) | (simp; omega) | omega))⟩

set_option maxRecDepth 100000 in
theorem potMoves_lifted (os : Os) (started : os.Started) (H : Type) (enc : TypeId × Value → H) :
    ReturnsInHanded {} Try.checked os 4 .any (Rows.potMovesSpec.pre6 enc Try.prog Try.f4 Rows.potMovesRow.domain false) (Rows.potMovesSpec.post enc Try.prog Try.f4 false true false false) := by
  refine returnsInHanded_of_change (C := Try.checked) own2 started (by kernel_rfl) Try.func4
    (ChangeSpec.witness6 (enc := enc) (C := Try.checked) false ⟨#[], #[.agg #[.int .i64 0, .int .i64 0, .int .i64 0], .bool false, .int .i64 0], []⟩ 8 (by kernel_rfl) (by kernel_rfl) (by kernel_rfl) (by kernel_rfl)) ?_
  intro W base args ds gs before hval0 hW hcnd _
  have hval : ∀ (j : Nat) t v, Try.f4.params[j]? = some t → args[j]? = some v → Value.okWide Try.prog W .any base t v := hval0
  have hW' := hW
  obtain ⟨p, q, hA0, hV, rfl, hfz, hnd⟩ := hW
  have hA : DataW.TrodAll enc Try.prog W 0 (fun _ => true) true Try.f4.params.toList args.toList ds p := hA0
  rw [Try.params4] at hA hval
  obtain ⟨v0, v1, v2, d0, d1, d2, p0, p1, p2, rfl, rfl, rfl, q0, q1, q2⟩ := trodAll_three hA
  obtain ⟨rfl, rfl⟩ := trodVars_none hV
  have k0 := q0
  have lt0 : ∀ x ∈ p0, x.block < W.heap.size := by obtain ⟨m, hm⟩ := k0; exact DataW.trod_lt m _ _ _ hm
  obtain ⟨h0, i0, o0, rfl, hb0⟩ := open_pot (hval 0 23 v0 rfl rfl) q0
  obtain ⟨b1, rfl, rfl, rfl⟩ := open_bool Try.underlying4 (hval 1 4 v1 rfl rfl) q1
  obtain ⟨a2, rfl, rfl, rfl, wa2⟩ := open_int Try.underlying2 (hval 2 2 v2 rfl rfl) q2
  have rg2 := rng_i64 wa2
  clear hA0 hval0
  refine (potMoves_walk h0 i0 o0 a2 b1 W hb0).mono fun e W' ⟨he, hg⟩ => ?_
  subst he
  exact ⟨_, rfl, _, _, _, [], _, [], hW', trodAll_mk1 (shut_bool Try.underlying4 _), trodAll_mk3 (Below.trod laidOut2 (by kernel_rfl) (of_decide_eq_true (by kernel_rfl)) k0 hg.below lt0) (shut_bool Try.underlying4 _) (shut_int Try.underlying2 wa2), rfl, hg.below.frame _, fun h => by cases h⟩

theorem potMoves_holds : Rows.PotMovesSaid :=
  OpenClaim.holds_of_wide 4 Try.f4 rfl rfl rfl rfl rfl rfl rfl ⟨rfl, rfl, rfl, rfl, rfl⟩ rfl rfl rfl rfl rfl (by kernel_rfl) Try.func4 (by kernel_rfl)
    (of_decide_eq_true (by kernel_rfl)) (by unfold Func.isWrapper; first | (rw [if_pos (by decide +kernel)]; kernel_rfl) | (rw [if_neg (by decide +kernel)]; exact ⟨rfl, rfl⟩))
    (fun os started H enc _ => potMoves_lifted os started H enc)
end Go.Proofs.Ytjifhfnigngcjaa
