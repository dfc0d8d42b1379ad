/- For every input the law PotUndone answers true: what is done and undone at once leaves the pot as it was; kept, it moves what is free, and the room. -/
import Derived.Test.YtjifhfnigngcjaaPotK
import Derived.Test.YtjifhfnigngcjaaPotE
import Derived.Test.YtjifhfnigngcjaaOpenP
namespace Go.Proofs.Ytjifhfnigngcjaa
open Go.ChangeShapes Go.WideShapes Go.ChangeAt Go.RowKit

theorem undone_no (h i o a : Int) (out : Bool) (w : World) (hb : inB h i o) (he : Pot.eDo out h i o a ≠ 0) :
    Calls Try.prog 8 #[.agg #[.int .i64 h, .int .i64 i, .int .i64 o], .bool out, .int .i64 a] w fun e w' => e = .returned (.bool true) ∧ Gr w w' := by
  have HA : Hid (∀ w', Calls Try.prog 15 #[] w' fun e w2 => e = .returned (.bool true) ∧ Gr w' w2) := fun w' => awake_any w'
  have H1 : Hid (∀ w', Calls Try.prog 16 #[.agg #[.int .i64 h, .int .i64 i, .int .i64 o], .bool out, .int .i64 a] w' fun e w2 => e = .returned (.tuple #[.agg #[.int .i64 0, .int .i64 0, .int .i64 0], .int .i64 (Pot.eDo out h i o a)]) ∧ Gr w' w2) := fun w' => do_not h i o a out w' hb.2.2.2 hb.1.2 he
  have hne : (Pot.eDo out h i o a != 0) = true := by simpa using he
  generalize Pot.eDo out h i o a = y at *
  clear hb
  go_enter Try.func8, Try.ntmps8
  go_wp2_with fail
  refine (H1.out _).mono ?_
  rintro e w1 ⟨rfl, hg1⟩
  go_wp2_with fail
  refine (HA.out _).mono ?_
  rintro e w2 ⟨rfl, hg2⟩
  go_wp2
  go_ret
  exact ⟨rfl, (by (repeat' (first | with_reducible exact Gr.refl _ | with_reducible refine Gr.set ?_ _ ?_ _ | with_reducible refine Gr.alloc ?_ | with_reducible refine Gr.drew ?_ | with_reducible refine Gr.trans ?_ (by assumption))) <;> (first | (simp; done) | (simp; omega) | omega))⟩

set_option maxHeartbeats 4000000 in
set_option maxRecDepth 100000 in
theorem undone_true (h i o a : Int) (w : World) (he : Pot.eDo true h i o a = 0) :
    Calls Try.prog 8 #[.agg #[.int .i64 h, .int .i64 i, .int .i64 o], .bool true, .int .i64 a] w fun e w' => e = .returned (.bool true) ∧ Gr w w' := by
  have HA : Hid (∀ w', Calls Try.prog 15 #[] w' fun e w2 => e = .returned (.bool true) ∧ Gr w' w2) := fun w' => awake_any w'
  obtain ⟨⟨h1, h2, h3, h4⟩, h5, h6, h7⟩ : (0 ≤ i ∧ i ≤ h ∧ 0 ≤ o ∧ h + o ≤ 1000000000000000) ∧ 1 ≤ a ∧ a ≤ 1000000000000000 ∧ a ≤ h - i := by
    rcases Pot.err_cases h i o a (Pot.mostDo true h i o) with ⟨_, e2, e3⟩ | ⟨e1, _⟩ | ⟨e1, _⟩
    · obtain ⟨r1, r2, r3⟩ := (Pot.arg_iff h i o a).1 e2
      refine ⟨r1, r2, r3, ?_⟩
      have : Pot.mostDo true h i o = h - i := by
        show Pot.freeE h i o = _
        unfold Pot.freeE
        rw [if_pos ((Pot.may_iff h i o).2 r1)]
      omega
    · unfold Pot.eDo at he; rw [e1] at he; cases he
    · unfold Pot.eDo at he; rw [e1] at he; cases he
  have mp : Pot.mayB h i o = true := (Pot.may_iff h i o).2 ⟨h1, h2, h3, h4⟩
  have mq : Pot.mayB (h - a) (i) (o + a) = true := (Pot.may_iff _ _ _).2 (by omega)
  have mk : Pot.mayB (h - a) (i) (o) = true := (Pot.may_iff _ _ _).2 (by omega)
  have eu : Pot.eUn true (h - a) (i) (o + a) a = 0 := Pot.err_ok ((Pot.arg_iff _ _ _ _).2 ⟨(Pot.may_iff _ _ _).1 mq, h5, h6⟩) (by show ¬ ((o + a) < a); omega)
  have H1 : Hid (∀ w', Calls Try.prog 16 #[.agg #[.int .i64 h, .int .i64 i, .int .i64 o], .bool true, .int .i64 a] w' fun e w2 => e = .returned (.tuple #[.agg #[.int .i64 (h - a), .int .i64 (i), .int .i64 (o + a)], .int .i64 0]) ∧ Gr w' w2) := fun w' => do_yes h i o a true w' he
  have H2 : Hid (∀ w', Calls Try.prog 18 #[.agg #[.int .i64 (h - a), .int .i64 (i), .int .i64 (o + a)], .bool true, .int .i64 a] w' fun e w2 => e = .returned (.tuple #[.agg #[.int .i64 h, .int .i64 i, .int .i64 o], .int .i64 0]) ∧ Gr w' w2) := by
    intro w'
    have := undo_yes (h - a) (i) (o + a) a true w' eu
    simp only [Pot.sg, if_true, Int.sub_add_cancel, Int.add_sub_cancel] at this
    exact this
  have H3 : Hid (∀ w', Calls Try.prog 20 #[.agg #[.int .i64 (h - a), .int .i64 (i), .int .i64 (o + a)], .bool true, .int .i64 a] w' fun e w2 => e = .returned (.tuple #[.agg #[.int .i64 (h - a), .int .i64 (i), .int .i64 (o)], .int .i64 0]) ∧ Gr w' w2) := by
    intro w'
    have := keep_yes (h - a) (i) (o + a) a true w' eu
    simp only [Pot.sg, if_true, Int.add_sub_cancel] at this
    exact this
  have H4 : Hid (∀ w', Calls Try.prog 9 #[.agg #[.int .i64 (h - a), .int .i64 (i), .int .i64 (o)]] w' fun e w2 => e = .returned (.int .i64 0) ∧ Gr w' w2) := fun w' => check_ok _ _ _ w' mk
  have H5 : Hid (∀ w', Calls Try.prog 11 #[.agg #[.int .i64 (h - a), .int .i64 (i), .int .i64 (o)]] w' fun e w2 => e = .returned (.int .i64 (h - i - a)) ∧ Gr w' w2) := by
    intro w'
    have := free_ok _ _ _ w' mk
    rwa [show h - a - i = h - i - a by omega] at this
  have H6 : Hid (∀ w', Calls Try.prog 11 #[.agg #[.int .i64 h, .int .i64 i, .int .i64 o]] w' fun e w2 => e = .returned (.int .i64 (h - i)) ∧ Gr w' w2) := fun w' => free_ok _ _ _ w' mp
  have H7 : Hid (∀ w', Calls Try.prog 13 #[.agg #[.int .i64 (h - a), .int .i64 (i), .int .i64 (o)]] w' fun e w2 => e = .returned (.int .i64 (1000000000000000 - h - o + a)) ∧ Gr w' w2) := by
    intro w'
    have := room_ok _ _ _ w' mk
    rwa [show 1000000000000000 - (h - a) - o = 1000000000000000 - h - o + a by omega] at this
  have H8 : Hid (∀ w', Calls Try.prog 13 #[.agg #[.int .i64 h, .int .i64 i, .int .i64 o]] w' fun e w2 => e = .returned (.int .i64 (1000000000000000 - h - o)) ∧ Gr w' w2) := fun w' => room_ok _ _ _ w' mp
  have H9 : Hid (∀ w', Calls Try.prog 13 #[.agg #[.int .i64 (h - a), .int .i64 (i), .int .i64 (o + a)]] w' fun e w2 => e = .returned (.int .i64 (1000000000000000 - h - o)) ∧ Gr w' w2) := by
    intro w'
    have := room_ok _ _ _ w' mq
    rwa [show 1000000000000000 - (h - a) - (o + a) = 1000000000000000 - h - o by omega] at this
  have r1 : -9223372036854775808 ≤ h - i - a ∧ h - i + a ≤ 9223372036854775807 := by omega
  have r2 : -9223372036854775808 ≤ 1000000000000000 - h - o - a ∧ 1000000000000000 - h - o + a ≤ 9223372036854775807 := by omega
  obtain ⟨r1, r3⟩ := r1
  obtain ⟨r2, r4⟩ := r2
  generalize h - i = fp at *
  generalize 1000000000000000 - h - o = rp at *
  generalize h - a = x at *
  generalize o + a = z at *
  have hx1 : IntKind.i64.wrap (fp - a) = fp - a := by rw [IntKind.wrap_i64]; omega
  have hx2 : IntKind.i64.wrap (rp + a) = rp + a := by rw [IntKind.wrap_i64]; omega
  obtain ⟨fk, hfk⟩ : ∃ x, fp - a = x := ⟨_, rfl⟩
  obtain ⟨rk, hrk⟩ : ∃ x, rp + a = x := ⟨_, rfl⟩
  have hw1 : IntKind.i64.wrap (fp - a) = fk := hx1.trans hfk
  have hw2 : IntKind.i64.wrap (rp + a) = rk := hx2.trans hrk
  rw [hfk] at H5
  rw [hrk] at H7
  clear hfk hrk hx1 hx2 r1 r2 r3 r4
  have e1 : (fp == fp) = true := by simp
  have e2 : (rp == rp) = true := by simp
  have e3 : (fk == fk) = true := by simp
  have e4 : (rk == rk) = true := by simp
  clear he mp mq mk eu h1 h2 h3 h4 h6 h7
  go_enter Try.func8, Try.ntmps8
  go_wp2_with fail
  refine (H1.out _).mono ?_
  rintro e w1 ⟨rfl, hg1⟩
  have g1 : Gr w w1 := (by (repeat' (first | with_reducible exact Gr.refl _ | with_reducible refine Gr.set ?_ _ ?_ _ | with_reducible refine Gr.alloc ?_ | with_reducible refine Gr.drew ?_ | with_reducible refine Gr.trans ?_ (by assumption))) <;> (first | (simp; done) | (simp; omega) | omega))
  have P := (BoxAt.new w _ _ _ _ _ rfl).gr hg1
  clear hg1
  have ⟨P0, P1, P2, _, _, _, P6⟩ := P
  go_wp2_with fail
  refine (H2.out _).mono ?_
  rintro e w2 ⟨rfl, hg2⟩
  have g2 : Gr w w2 := (by (repeat' (first | with_reducible exact Gr.refl _ | with_reducible refine Gr.set ?_ _ ?_ _ | with_reducible refine Gr.alloc ?_ | with_reducible refine Gr.drew ?_ | with_reducible refine Gr.trans ?_ (by assumption))) <;> (first | (simp; done) | (simp; omega) | omega))
  have P := P.gr ((Gr.refl _).alloc.trans hg2)
  have Q := (BoxAt.new w1 _ _ _ _ _ rfl).gr hg2
  clear g1
  clear hg2
  clear P0 P1 P2 P6
  have ⟨P0, P1, P2, _, _, _, P6⟩ := P
  have ⟨Q0, Q1, Q2, _, _, _, Q6⟩ := Q
  go_wp2_with fail
  refine (H3.out _).mono ?_
  rintro e w3 ⟨rfl, hg3⟩
  have g3 : Gr w w3 := (by (repeat' (first | with_reducible exact Gr.refl _ | with_reducible refine Gr.set ?_ _ ?_ _ | with_reducible refine Gr.alloc ?_ | with_reducible refine Gr.drew ?_ | with_reducible refine Gr.trans ?_ (by assumption))) <;> (first | (simp; done) | (simp; omega) | omega))
  have P := P.gr ((Gr.refl _).alloc.trans hg3)
  have Q := Q.gr ((Gr.refl _).alloc.trans hg3)
  have U := (BoxAt.new w2 _ _ _ _ _ rfl).gr hg3
  clear g2
  clear hg3
  clear P0 P1 P2 P6 Q0 Q1 Q2 Q6
  have ⟨P0, P1, P2, _, _, _, P6⟩ := P
  have ⟨Q0, Q1, Q2, _, _, _, Q6⟩ := Q
  have ⟨U0, U1, U2, _, _, _, U6⟩ := U
  go_wp2_with fail
  refine (H4.out _).mono ?_
  rintro e w4 ⟨rfl, hg4⟩
  have g4 : Gr w w4 := (by (repeat' (first | with_reducible exact Gr.refl _ | with_reducible refine Gr.set ?_ _ ?_ _ | with_reducible refine Gr.alloc ?_ | with_reducible refine Gr.drew ?_ | with_reducible refine Gr.trans ?_ (by assumption))) <;> (first | (simp; done) | (simp; omega) | omega))
  have P := P.gr ((Gr.refl _).alloc.trans hg4)
  have Q := Q.gr ((Gr.refl _).alloc.trans hg4)
  have U := U.gr ((Gr.refl _).alloc.trans hg4)
  have K := (BoxAt.new w3 _ _ _ _ _ rfl).gr hg4
  clear g3
  clear hg4
  clear P0 P1 P2 P6 Q0 Q1 Q2 Q6 U0 U1 U2 U6
  have ⟨P0, P1, P2, _, _, _, P6⟩ := P
  have ⟨Q0, Q1, Q2, _, _, _, Q6⟩ := Q
  have ⟨U0, U1, U2, _, _, _, U6⟩ := U
  have ⟨K0, K1, K2, _, _, _, K6⟩ := K
  clear U
  go_wp2_with fail
  go_region_held3 (fun w' => Gr w w' ∧ w'.cell? ⟨w.heap.size, 0, none⟩ = some (.int .i64 h) ∧ w'.cell? ⟨w.heap.size, 1, none⟩ = some (.int .i64 i) ∧ w'.cell? ⟨w.heap.size, 2, none⟩ = some (.int .i64 o) ∧ w'.cell? ⟨w1.heap.size, 0, none⟩ = some (.int .i64 x) ∧ w'.cell? ⟨w1.heap.size, 1, none⟩ = some (.int .i64 i) ∧ w'.cell? ⟨w1.heap.size, 2, none⟩ = some (.int .i64 z) ∧ w'.cell? ⟨w3.heap.size, 0, none⟩ = some (.int .i64 x) ∧ w'.cell? ⟨w3.heap.size, 1, none⟩ = some (.int .i64 i) ∧ w'.cell? ⟨w3.heap.size, 2, none⟩ = some (.int .i64 o))
    ((go_split_ands; first | exact ⟨Gr.trans (by assumption) hgn, hgn.keep (by assumption), hgn.keep (by assumption), hgn.keep (by assumption), hgn.keep (by assumption), hgn.keep (by assumption), hgn.keep (by assumption), hgn.keep (by assumption), hgn.keep (by assumption), hgn.keep (by assumption)⟩ | exact ⟨g4.drew, Gr.keep (Gr.refl w4).drew P0, Gr.keep (Gr.refl w4).drew P1, Gr.keep (Gr.refl w4).drew P2, Gr.keep (Gr.refl w4).drew Q0, Gr.keep (Gr.refl w4).drew Q1, Gr.keep (Gr.refl w4).drew Q2, Gr.keep (Gr.refl w4).drew K0, Gr.keep (Gr.refl w4).drew K1, Gr.keep (Gr.refl w4).drew K2⟩))
    ((first
      | (go_at_call_of 11 (Value.agg #[Value.int IntKind.i64 x, Value.int IntKind.i64 i, Value.int IntKind.i64 o]); refine (H5.out _).mono ?_; rintro e wn ⟨rfl, hgn⟩)
      | (go_at_call_of 11 (Value.agg #[Value.int IntKind.i64 h, Value.int IntKind.i64 i, Value.int IntKind.i64 o]); refine (H6.out _).mono ?_; rintro e wn ⟨rfl, hgn⟩)
      | (go_at_call_of 13 (Value.agg #[Value.int IntKind.i64 x, Value.int IntKind.i64 i, Value.int IntKind.i64 o]); refine (H7.out _).mono ?_; rintro e wn ⟨rfl, hgn⟩)
      | (go_at_call_of 13 (Value.agg #[Value.int IntKind.i64 h, Value.int IntKind.i64 i, Value.int IntKind.i64 o]); refine (H8.out _).mono ?_; rintro e wn ⟨rfl, hgn⟩)
      | (go_at_call_of 13 (Value.agg #[Value.int IntKind.i64 x, Value.int IntKind.i64 i, Value.int IntKind.i64 z]); refine (H9.out _).mono ?_; rintro e wn ⟨rfl, hgn⟩)
      | (go_at_call 15; refine (HA.out _).mono ?_; rintro e wn ⟨rfl, hgn⟩)))
  all_goals go_wp2
  all_goals go_split_ands
  all_goals go_ret
  all_goals exact ⟨rfl, by assumption⟩

set_option maxHeartbeats 4000000 in
set_option maxRecDepth 100000 in
theorem undone_false (h i o a : Int) (w : World) (he : Pot.eDo false h i o a = 0) :
    Calls Try.prog 8 #[.agg #[.int .i64 h, .int .i64 i, .int .i64 o], .bool false, .int .i64 a] w fun e w' => e = .returned (.bool true) ∧ Gr w w' := by
  have HA : Hid (∀ w', Calls Try.prog 15 #[] w' fun e w2 => e = .returned (.bool true) ∧ Gr w' w2) := fun w' => awake_any w'
  obtain ⟨⟨h1, h2, h3, h4⟩, h5, h6, h7⟩ : (0 ≤ i ∧ i ≤ h ∧ 0 ≤ o ∧ h + o ≤ 1000000000000000) ∧ 1 ≤ a ∧ a ≤ 1000000000000000 ∧ a ≤ 1000000000000000 - h - o := by
    rcases Pot.err_cases h i o a (Pot.mostDo false h i o) with ⟨_, e2, e3⟩ | ⟨e1, _⟩ | ⟨e1, _⟩
    · obtain ⟨r1, r2, r3⟩ := (Pot.arg_iff h i o a).1 e2
      refine ⟨r1, r2, r3, ?_⟩
      have : Pot.mostDo false h i o = 1000000000000000 - h - o := by
        show Pot.roomE h i o = _
        unfold Pot.roomE
        rw [if_pos ((Pot.may_iff h i o).2 r1)]
      omega
    · unfold Pot.eDo at he; rw [e1] at he; cases he
    · unfold Pot.eDo at he; rw [e1] at he; cases he
  have mp : Pot.mayB h i o = true := (Pot.may_iff h i o).2 ⟨h1, h2, h3, h4⟩
  have mq : Pot.mayB (h + a) (i + a) (o) = true := (Pot.may_iff _ _ _).2 (by omega)
  have mk : Pot.mayB (h + a) (i) (o) = true := (Pot.may_iff _ _ _).2 (by omega)
  have eu : Pot.eUn false (h + a) (i + a) (o) a = 0 := Pot.err_ok ((Pot.arg_iff _ _ _ _).2 ⟨(Pot.may_iff _ _ _).1 mq, h5, h6⟩) (by show ¬ ((i + a) < a); omega)
  have H1 : Hid (∀ w', Calls Try.prog 16 #[.agg #[.int .i64 h, .int .i64 i, .int .i64 o], .bool false, .int .i64 a] w' fun e w2 => e = .returned (.tuple #[.agg #[.int .i64 (h + a), .int .i64 (i + a), .int .i64 (o)], .int .i64 0]) ∧ Gr w' w2) := fun w' => do_yes h i o a false w' he
  have H2 : Hid (∀ w', Calls Try.prog 18 #[.agg #[.int .i64 (h + a), .int .i64 (i + a), .int .i64 (o)], .bool false, .int .i64 a] w' fun e w2 => e = .returned (.tuple #[.agg #[.int .i64 h, .int .i64 i, .int .i64 o], .int .i64 0]) ∧ Gr w' w2) := by
    intro w'
    have := undo_yes (h + a) (i + a) (o) a false w' eu
    simp only [Pot.sg, Bool.false_eq_true, if_false, Int.add_sub_cancel] at this
    exact this
  have H3 : Hid (∀ w', Calls Try.prog 20 #[.agg #[.int .i64 (h + a), .int .i64 (i + a), .int .i64 (o)], .bool false, .int .i64 a] w' fun e w2 => e = .returned (.tuple #[.agg #[.int .i64 (h + a), .int .i64 (i), .int .i64 (o)], .int .i64 0]) ∧ Gr w' w2) := by
    intro w'
    have := keep_yes (h + a) (i + a) (o) a false w' eu
    simp only [Pot.sg, Bool.false_eq_true, if_false, Int.add_sub_cancel] at this
    exact this
  have H4 : Hid (∀ w', Calls Try.prog 9 #[.agg #[.int .i64 (h + a), .int .i64 (i), .int .i64 (o)]] w' fun e w2 => e = .returned (.int .i64 0) ∧ Gr w' w2) := fun w' => check_ok _ _ _ w' mk
  have H5 : Hid (∀ w', Calls Try.prog 11 #[.agg #[.int .i64 (h + a), .int .i64 (i), .int .i64 (o)]] w' fun e w2 => e = .returned (.int .i64 (h - i + a)) ∧ Gr w' w2) := by
    intro w'
    have := free_ok _ _ _ w' mk
    rwa [show h + a - i = h - i + a by omega] at this
  have H6 : Hid (∀ w', Calls Try.prog 11 #[.agg #[.int .i64 h, .int .i64 i, .int .i64 o]] w' fun e w2 => e = .returned (.int .i64 (h - i)) ∧ Gr w' w2) := fun w' => free_ok _ _ _ w' mp
  have H7 : Hid (∀ w', Calls Try.prog 13 #[.agg #[.int .i64 (h + a), .int .i64 (i), .int .i64 (o)]] w' fun e w2 => e = .returned (.int .i64 (1000000000000000 - h - o - a)) ∧ Gr w' w2) := by
    intro w'
    have := room_ok _ _ _ w' mk
    rwa [show 1000000000000000 - (h + a) - o = 1000000000000000 - h - o - a by omega] at this
  have H8 : Hid (∀ w', Calls Try.prog 13 #[.agg #[.int .i64 h, .int .i64 i, .int .i64 o]] w' fun e w2 => e = .returned (.int .i64 (1000000000000000 - h - o)) ∧ Gr w' w2) := fun w' => room_ok _ _ _ w' mp
  have H9 : Hid (∀ w', Calls Try.prog 11 #[.agg #[.int .i64 (h + a), .int .i64 (i + a), .int .i64 (o)]] w' fun e w2 => e = .returned (.int .i64 (h - i)) ∧ Gr w' w2) := by
    intro w'
    have := free_ok _ _ _ w' mq
    rwa [show h + a - (i + a) = h - i by omega] at this
  have r1 : -9223372036854775808 ≤ h - i - a ∧ h - i + a ≤ 9223372036854775807 := by omega
  have r2 : -9223372036854775808 ≤ 1000000000000000 - h - o - a ∧ 1000000000000000 - h - o + a ≤ 9223372036854775807 := by omega
  obtain ⟨r1, r3⟩ := r1
  obtain ⟨r2, r4⟩ := r2
  generalize h - i = fp at *
  generalize 1000000000000000 - h - o = rp at *
  generalize h + a = x at *
  generalize i + a = z at *
  have hx1 : IntKind.i64.wrap (fp + a) = fp + a := by rw [IntKind.wrap_i64]; omega
  have hx2 : IntKind.i64.wrap (rp - a) = rp - a := by rw [IntKind.wrap_i64]; omega
  obtain ⟨fk, hfk⟩ : ∃ x, fp + a = x := ⟨_, rfl⟩
  obtain ⟨rk, hrk⟩ : ∃ x, rp - a = x := ⟨_, rfl⟩
  have hw1 : IntKind.i64.wrap (fp + a) = fk := hx1.trans hfk
  have hw2 : IntKind.i64.wrap (rp - a) = rk := hx2.trans hrk
  rw [hfk] at H5
  rw [hrk] at H7
  clear hfk hrk hx1 hx2 r1 r2 r3 r4
  have e1 : (fp == fp) = true := by simp
  have e2 : (rp == rp) = true := by simp
  have e3 : (fk == fk) = true := by simp
  have e4 : (rk == rk) = true := by simp
  clear he mp mq mk eu h1 h2 h3 h4 h6 h7
  go_enter Try.func8, Try.ntmps8
  go_wp2_with fail
  refine (H1.out _).mono ?_
  rintro e w1 ⟨rfl, hg1⟩
  have g1 : Gr w w1 := (by (repeat' (first | with_reducible exact Gr.refl _ | with_reducible refine Gr.set ?_ _ ?_ _ | with_reducible refine Gr.alloc ?_ | with_reducible refine Gr.drew ?_ | with_reducible refine Gr.trans ?_ (by assumption))) <;> (first | (simp; done) | (simp; omega) | omega))
  have P := (BoxAt.new w _ _ _ _ _ rfl).gr hg1
  clear hg1
  have ⟨P0, P1, P2, _, _, _, P6⟩ := P
  go_wp2_with fail
  refine (H2.out _).mono ?_
  rintro e w2 ⟨rfl, hg2⟩
  have g2 : Gr w w2 := (by (repeat' (first | with_reducible exact Gr.refl _ | with_reducible refine Gr.set ?_ _ ?_ _ | with_reducible refine Gr.alloc ?_ | with_reducible refine Gr.drew ?_ | with_reducible refine Gr.trans ?_ (by assumption))) <;> (first | (simp; done) | (simp; omega) | omega))
  have P := P.gr ((Gr.refl _).alloc.trans hg2)
  have Q := (BoxAt.new w1 _ _ _ _ _ rfl).gr hg2
  clear g1
  clear hg2
  clear P0 P1 P2 P6
  have ⟨P0, P1, P2, _, _, _, P6⟩ := P
  have ⟨Q0, Q1, Q2, _, _, _, Q6⟩ := Q
  go_wp2_with fail
  refine (H3.out _).mono ?_
  rintro e w3 ⟨rfl, hg3⟩
  have g3 : Gr w w3 := (by (repeat' (first | with_reducible exact Gr.refl _ | with_reducible refine Gr.set ?_ _ ?_ _ | with_reducible refine Gr.alloc ?_ | with_reducible refine Gr.drew ?_ | with_reducible refine Gr.trans ?_ (by assumption))) <;> (first | (simp; done) | (simp; omega) | omega))
  have P := P.gr ((Gr.refl _).alloc.trans hg3)
  have Q := Q.gr ((Gr.refl _).alloc.trans hg3)
  have U := (BoxAt.new w2 _ _ _ _ _ rfl).gr hg3
  clear g2
  clear hg3
  clear P0 P1 P2 P6 Q0 Q1 Q2 Q6
  have ⟨P0, P1, P2, _, _, _, P6⟩ := P
  have ⟨Q0, Q1, Q2, _, _, _, Q6⟩ := Q
  have ⟨U0, U1, U2, _, _, _, U6⟩ := U
  go_wp2_with fail
  refine (H4.out _).mono ?_
  rintro e w4 ⟨rfl, hg4⟩
  have g4 : Gr w w4 := (by (repeat' (first | with_reducible exact Gr.refl _ | with_reducible refine Gr.set ?_ _ ?_ _ | with_reducible refine Gr.alloc ?_ | with_reducible refine Gr.drew ?_ | with_reducible refine Gr.trans ?_ (by assumption))) <;> (first | (simp; done) | (simp; omega) | omega))
  have P := P.gr ((Gr.refl _).alloc.trans hg4)
  have Q := Q.gr ((Gr.refl _).alloc.trans hg4)
  have U := U.gr ((Gr.refl _).alloc.trans hg4)
  have K := (BoxAt.new w3 _ _ _ _ _ rfl).gr hg4
  clear g3
  clear hg4
  clear P0 P1 P2 P6 Q0 Q1 Q2 Q6 U0 U1 U2 U6
  have ⟨P0, P1, P2, _, _, _, P6⟩ := P
  have ⟨Q0, Q1, Q2, _, _, _, Q6⟩ := Q
  have ⟨U0, U1, U2, _, _, _, U6⟩ := U
  have ⟨K0, K1, K2, _, _, _, K6⟩ := K
  clear U
  go_wp2_with fail
  go_region_held3 (fun w' => Gr w w' ∧ w'.cell? ⟨w.heap.size, 0, none⟩ = some (.int .i64 h) ∧ w'.cell? ⟨w.heap.size, 1, none⟩ = some (.int .i64 i) ∧ w'.cell? ⟨w.heap.size, 2, none⟩ = some (.int .i64 o) ∧ w'.cell? ⟨w1.heap.size, 0, none⟩ = some (.int .i64 x) ∧ w'.cell? ⟨w1.heap.size, 1, none⟩ = some (.int .i64 z) ∧ w'.cell? ⟨w1.heap.size, 2, none⟩ = some (.int .i64 o) ∧ w'.cell? ⟨w3.heap.size, 0, none⟩ = some (.int .i64 x) ∧ w'.cell? ⟨w3.heap.size, 1, none⟩ = some (.int .i64 i) ∧ w'.cell? ⟨w3.heap.size, 2, none⟩ = some (.int .i64 o))
    ((go_split_ands; first | exact ⟨Gr.trans (by assumption) hgn, hgn.keep (by assumption), hgn.keep (by assumption), hgn.keep (by assumption), hgn.keep (by assumption), hgn.keep (by assumption), hgn.keep (by assumption), hgn.keep (by assumption), hgn.keep (by assumption), hgn.keep (by assumption)⟩ | exact ⟨g4.drew, Gr.keep (Gr.refl w4).drew P0, Gr.keep (Gr.refl w4).drew P1, Gr.keep (Gr.refl w4).drew P2, Gr.keep (Gr.refl w4).drew Q0, Gr.keep (Gr.refl w4).drew Q1, Gr.keep (Gr.refl w4).drew Q2, Gr.keep (Gr.refl w4).drew K0, Gr.keep (Gr.refl w4).drew K1, Gr.keep (Gr.refl w4).drew K2⟩))
    ((first
      | (go_at_call_of 11 (Value.agg #[Value.int IntKind.i64 x, Value.int IntKind.i64 i, Value.int IntKind.i64 o]); refine (H5.out _).mono ?_; rintro e wn ⟨rfl, hgn⟩)
      | (go_at_call_of 11 (Value.agg #[Value.int IntKind.i64 h, Value.int IntKind.i64 i, Value.int IntKind.i64 o]); refine (H6.out _).mono ?_; rintro e wn ⟨rfl, hgn⟩)
      | (go_at_call_of 13 (Value.agg #[Value.int IntKind.i64 x, Value.int IntKind.i64 i, Value.int IntKind.i64 o]); refine (H7.out _).mono ?_; rintro e wn ⟨rfl, hgn⟩)
      | (go_at_call_of 13 (Value.agg #[Value.int IntKind.i64 h, Value.int IntKind.i64 i, Value.int IntKind.i64 o]); refine (H8.out _).mono ?_; rintro e wn ⟨rfl, hgn⟩)
      | (go_at_call_of 11 (Value.agg #[Value.int IntKind.i64 x, Value.int IntKind.i64 z, Value.int IntKind.i64 o]); refine (H9.out _).mono ?_; rintro e wn ⟨rfl, hgn⟩)
      | (go_at_call 15; refine (HA.out _).mono ?_; rintro e wn ⟨rfl, hgn⟩)))
  all_goals go_wp2
  all_goals go_split_ands
  all_goals go_ret
  all_goals exact ⟨rfl, by assumption⟩

theorem potUndone_walk (h i o a : Int) (out : Bool) (w : World) (hb : inB h i o) :
    Calls Try.prog 8 #[.agg #[.int .i64 h, .int .i64 i, .int .i64 o], .bool out, .int .i64 a] w fun e w' => e = .returned (.bool true) ∧ Gr w w' := by
  by_cases he : Pot.eDo out h i o a = 0
  · cases out
    · exact undone_false h i o a w he
    · exact undone_true h i o a w he
  · exact undone_no h i o a out w hb he

set_option maxRecDepth 100000 in
theorem potUndone_lifted (os : Os) (started : os.Started) (H : Type) (enc : TypeId × Value → H) :
    ReturnsInHanded {} Try.checked os 8 .any (Rows.potUndoneSpec.pre6 enc Try.prog Try.f8 Rows.potUndoneRow.domain false) (Rows.potUndoneSpec.post enc Try.prog Try.f8 false true false false) := by
  refine returnsInHanded_of_change (C := Try.checked) own2 started (by kernel_rfl) Try.func8
    (ChangeSpec.witness6 (enc := enc) (C := Try.checked) false ⟨#[], #[.agg #[.int .i64 0, .int .i64 0, .int .i64 0], .bool false, .int .i64 0], []⟩ 8 (by kernel_rfl) (by kernel_rfl) (by kernel_rfl) (by kernel_rfl)) ?_
  intro W base args ds gs before hval0 hW hcnd _
  have hval : ∀ (j : Nat) t v, Try.f8.params[j]? = some t → args[j]? = some v → Value.okWide Try.prog W .any base t v := hval0
  have hW' := hW
  obtain ⟨p, q, hA0, hV, rfl, hfz, hnd⟩ := hW
  have hA : DataW.TrodAll enc Try.prog W 0 (fun _ => true) true Try.f8.params.toList args.toList ds p := hA0
  rw [Try.params8] at hA hval
  obtain ⟨v0, v1, v2, d0, d1, d2, p0, p1, p2, rfl, rfl, rfl, q0, q1, q2⟩ := trodAll_three hA
  obtain ⟨rfl, rfl⟩ := trodVars_none hV
  have k0 := q0
  have lt0 : ∀ x ∈ p0, x.block < W.heap.size := by obtain ⟨m, hm⟩ := k0; exact DataW.trod_lt m _ _ _ hm
  obtain ⟨h0, i0, o0, rfl, hb0⟩ := open_pot (hval 0 23 v0 rfl rfl) q0
  obtain ⟨b1, rfl, rfl, rfl⟩ := open_bool Try.underlying4 (hval 1 4 v1 rfl rfl) q1
  obtain ⟨a2, rfl, rfl, rfl, wa2⟩ := open_int Try.underlying2 (hval 2 2 v2 rfl rfl) q2
  have rg2 := rng_i64 wa2
  clear hA0 hval0
  refine (potUndone_walk h0 i0 o0 a2 b1 W hb0).mono fun e W' ⟨he, hg⟩ => ?_
  subst he
  exact ⟨_, rfl, _, _, _, [], _, [], hW', trodAll_mk1 (shut_bool Try.underlying4 _), trodAll_mk3 (Below.trod laidOut2 (by kernel_rfl) (of_decide_eq_true (by kernel_rfl)) k0 hg.below lt0) (shut_bool Try.underlying4 _) (shut_int Try.underlying2 wa2), rfl, hg.below.frame _, fun h => by cases h⟩

theorem potUndone_holds : Rows.PotUndoneSaid :=
  OpenClaim.holds_of_wide 8 Try.f8 rfl rfl rfl rfl rfl rfl rfl ⟨rfl, rfl, rfl, rfl, rfl⟩ rfl rfl rfl rfl rfl (by kernel_rfl) Try.func8 (by kernel_rfl)
    (of_decide_eq_true (by kernel_rfl)) (by unfold Func.isWrapper; first | (rw [if_pos (by decide +kernel)]; kernel_rfl) | (rw [if_neg (by decide +kernel)]; exact ⟨rfl, rfl⟩))
    (fun os started H enc _ => potUndone_lifted os started H enc)
end Go.Proofs.Ytjifhfnigngcjaa
