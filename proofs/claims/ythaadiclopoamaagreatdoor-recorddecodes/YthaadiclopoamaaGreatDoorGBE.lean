/- Parts of these proofs, laid together. -/
import Derived.Test.YthaadiclopoamaaGreatDoorGBD
/- the document's record: Move. -/
set_option maxRecDepth 100000
set_option maxHeartbeats 8000000
namespace Go.Proofs.YthaadiclopoamaaGreatDoor
open Go.RowKit
open Df (Stp)

theorem rmove10 (r n : Int) (L : List (Int × Int)) (s y : Int) (d : ByteArray) (S : List Stp) (a1 : Option Addr) (e1 : Nat) (a2 : Option Addr) (e2 : Nat) (w : World) (h : MvIn w (⟨10, r, n, L, s, y, d, S⟩ : Mv) a1 e1 a2 e2) :
  Calls Tryz.prog 13 #[.agg #[.int .i64 10, .int .i64 r, .int .i64 n, .slice a1 L.length e1, .int .i64 s, .int .i64 y, .string d, .slice a2 S.length e2]] w fun e w' => e = .returned (.int .i64 (Rc.mvE (⟨10, r, n, L, s, y, d, S⟩ : Mv))) /\ Gr w w' := by
 have HI : Hid (∀ w', Gr w w' -> Calls Tryz.prog 29 #[.agg #[.int .i64 r, .int .i64 n, .slice a1 L.length e1]] w' fun e w2 => e = .returned (.int .i64 (if Idn.mayB r n L = true then 0 else 30)) /\ Gr w' w2) := fun w' g => refCheck_any r n L a1 e1 w' (h.hops.gr g) h.nL
 have HD : Hid (∀ w', Gr w w' -> Calls Tryz.prog 31 #[.agg #[.string d, .slice a2 S.length e2]] w' fun e w2 => e = .returned (.bool (Rc.baB d S)) /\ Gr w' w2) := fun w' _ => bare_any d S a2 e2 w'
 have HP : Hid (∀ w', Gr w w' -> Calls Tryz.prog 25 #[.int .i64 10] w' fun e w2 => e = .returned (.bool false) /\ Gr w' w2) := fun w' _ => (steps_any 10 w').mono fun _ _ q => ⟨q.1, by rw [q.2]; exact Gr.refl _⟩
 have HM : Hid (Rc.mvE (⟨10, r, n, L, s, y, d, S⟩ : Mv) = if (Idn.mayB r n L && (!false || decide (0 < L.length)) && Rc.baB d S && Rc.inB y 1 9 && decide (s = 0)) = true then 0 else 140) := by
  show _ = _
  rfl
 generalize Rc.mvE (⟨10, r, n, L, s, y, d, S⟩ : Mv) = R at *
 generalize Idn.mayB r n L = bI at *
 generalize Rc.baB d S = bD at *
 clear h
 cases bI with
 | false =>
  rw [if_neg (by decide)] at HI
  obtain rfl : R = 140 := HM.out
  go_enter Tryz.func13, Tryz.ntmps13
  go_wp2_with fail
  refine (HI.out _ ?_).mono ?_
  ·exact (Gr.refl _).alloc
  rintro e4 w1 ⟨rfl, hg1⟩
  have G1 := (Gr.refl w).alloc.trans hg1
  have B1 := (Cs.new w _ _ _ rfl).gr hg1
  clear hg1
  obtain ⟨c0, c1, c2, c3, c4, c5, c6, c7, clt⟩ := B1.c8
  go_wp2
  go_ret
  exact ⟨rfl, G1⟩
 | true =>
  rw [if_pos rfl] at HI
  cases bD with
  | false =>
   replace HM : Hid (R = 140) := by show _ = _; rw [HM.out]; rfl
   obtain rfl : R = 140 := HM.out
   go_enter Tryz.func13, Tryz.ntmps13
   go_wp2_with fail
   refine (HI.out _ ?_).mono ?_
   ·exact (Gr.refl _).alloc
   rintro e4 w1 ⟨rfl, hg1⟩
   have G1 := (Gr.refl w).alloc.trans hg1
   have B1 := (Cs.new w _ _ _ rfl).gr hg1
   clear hg1
   obtain ⟨c0, c1, c2, c3, c4, c5, c6, c7, clt⟩ := B1.c8
   go_wp2_with fail
   refine (HD.out _ G1).mono ?_
   rintro e5 w2 ⟨rfl, hg2⟩
   have G2 : Gr w w2 := G1.trans hg2
   have B2 := B1.gr hg2
   clear hg2 B1 clt c0 c1 c2 c3 c4 c5 c6 c7
   obtain ⟨c0, c1, c2, c3, c4, c5, c6, c7, clt⟩ := B2.c8
   go_wp2
   go_ret
   exact ⟨rfl, G2⟩
  | true =>
   unfold Rc.inB at HM
   by_cases y1 : y < 1
   ·rw [decide_eq_false (by omega : ¬ 1 <= y)] at HM
    obtain rfl : R = 140 := HM.out
    go_enter Tryz.func13, Tryz.ntmps13
    go_wp2_with fail
    refine (HI.out _ ?_).mono ?_
    ·exact (Gr.refl _).alloc
    rintro e4 w1 ⟨rfl, hg1⟩
    have G1 := (Gr.refl w).alloc.trans hg1
    have B1 := (Cs.new w _ _ _ rfl).gr hg1
    clear hg1
    obtain ⟨c0, c1, c2, c3, c4, c5, c6, c7, clt⟩ := B1.c8
    go_wp2_with fail
    refine (HD.out _ G1).mono ?_
    rintro e5 w2 ⟨rfl, hg2⟩
    have G2 : Gr w w2 := G1.trans hg2
    have B2 := B1.gr hg2
    clear hg2 B1 clt c0 c1 c2 c3 c4 c5 c6 c7
    obtain ⟨c0, c1, c2, c3, c4, c5, c6, c7, clt⟩ := B2.c8
    go_wp2
    go_ret
    exact ⟨rfl, G2⟩
   rw [decide_eq_true (by omega : 1 <= y)] at HM
   by_cases y9 : 9 < y
   ·rw [decide_eq_false (by omega : ¬ y <= 9)] at HM
    obtain rfl : R = 140 := HM.out
    go_enter Tryz.func13, Tryz.ntmps13
    go_wp2_with fail
    refine (HI.out _ ?_).mono ?_
    ·exact (Gr.refl _).alloc
    rintro e4 w1 ⟨rfl, hg1⟩
    have G1 := (Gr.refl w).alloc.trans hg1
    have B1 := (Cs.new w _ _ _ rfl).gr hg1
    clear hg1
    obtain ⟨c0, c1, c2, c3, c4, c5, c6, c7, clt⟩ := B1.c8
    go_wp2_with fail
    refine (HD.out _ G1).mono ?_
    rintro e5 w2 ⟨rfl, hg2⟩
    have G2 : Gr w w2 := G1.trans hg2
    have B2 := B1.gr hg2
    clear hg2 B1 clt c0 c1 c2 c3 c4 c5 c6 c7
    obtain ⟨c0, c1, c2, c3, c4, c5, c6, c7, clt⟩ := B2.c8
    go_wp2
    go_ret
    exact ⟨rfl, G2⟩
   rw [decide_eq_true (by omega : y <= 9)] at HM
   by_cases s0 : s < 0
   ·rw [decide_eq_false (by omega : ¬ s = 0)] at HM
    obtain rfl : R = 140 := HM.out
    go_enter Tryz.func13, Tryz.ntmps13
    go_wp2_with fail
    refine (HI.out _ ?_).mono ?_
    ·exact (Gr.refl _).alloc
    rintro e4 w1 ⟨rfl, hg1⟩
    have G1 := (Gr.refl w).alloc.trans hg1
    have B1 := (Cs.new w _ _ _ rfl).gr hg1
    clear hg1
    obtain ⟨c0, c1, c2, c3, c4, c5, c6, c7, clt⟩ := B1.c8
    go_wp2_with fail
    refine (HD.out _ G1).mono ?_
    rintro e5 w2 ⟨rfl, hg2⟩
    have G2 : Gr w w2 := G1.trans hg2
    have B2 := B1.gr hg2
    clear hg2 B1 clt c0 c1 c2 c3 c4 c5 c6 c7
    obtain ⟨c0, c1, c2, c3, c4, c5, c6, c7, clt⟩ := B2.c8
    go_wp2_with fail
    refine (HP.out _ G2).mono ?_
    rintro e6 w3 ⟨rfl, hg3⟩
    have G3 : Gr w w3 := G2.trans hg3
    have B3 := B2.gr hg3
    clear hg3 B2 clt c0 c1 c2 c3 c4 c5 c6 c7
    obtain ⟨c0, c1, c2, c3, c4, c5, c6, c7, clt⟩ := B3.c8
    go_wp2
    go_ret
    exact ⟨rfl, G3⟩
   by_cases s7 : 0 < s
   ·rw [decide_eq_false (by omega : ¬ s = 0)] at HM
    obtain rfl : R = 140 := HM.out
    go_enter Tryz.func13, Tryz.ntmps13
    go_wp2_with fail
    refine (HI.out _ ?_).mono ?_
    ·exact (Gr.refl _).alloc
    rintro e4 w1 ⟨rfl, hg1⟩
    have G1 := (Gr.refl w).alloc.trans hg1
    have B1 := (Cs.new w _ _ _ rfl).gr hg1
    clear hg1
    obtain ⟨c0, c1, c2, c3, c4, c5, c6, c7, clt⟩ := B1.c8
    go_wp2_with fail
    refine (HD.out _ G1).mono ?_
    rintro e5 w2 ⟨rfl, hg2⟩
    have G2 : Gr w w2 := G1.trans hg2
    have B2 := B1.gr hg2
    clear hg2 B1 clt c0 c1 c2 c3 c4 c5 c6 c7
    obtain ⟨c0, c1, c2, c3, c4, c5, c6, c7, clt⟩ := B2.c8
    go_wp2_with fail
    refine (HP.out _ G2).mono ?_
    rintro e6 w3 ⟨rfl, hg3⟩
    have G3 : Gr w w3 := G2.trans hg3
    have B3 := B2.gr hg3
    clear hg3 B2 clt c0 c1 c2 c3 c4 c5 c6 c7
    obtain ⟨c0, c1, c2, c3, c4, c5, c6, c7, clt⟩ := B3.c8
    go_wp2
    go_ret
    exact ⟨rfl, G3⟩
   rw [decide_eq_true (by omega : s = 0)] at HM
   obtain rfl : R = 0 := HM.out
   go_enter Tryz.func13, Tryz.ntmps13
   go_wp2_with fail
   refine (HI.out _ ?_).mono ?_
   ·exact (Gr.refl _).alloc
   rintro e4 w1 ⟨rfl, hg1⟩
   have G1 := (Gr.refl w).alloc.trans hg1
   have B1 := (Cs.new w _ _ _ rfl).gr hg1
   clear hg1
   obtain ⟨c0, c1, c2, c3, c4, c5, c6, c7, clt⟩ := B1.c8
   go_wp2_with fail
   refine (HD.out _ G1).mono ?_
   rintro e5 w2 ⟨rfl, hg2⟩
   have G2 : Gr w w2 := G1.trans hg2
   have B2 := B1.gr hg2
   clear hg2 B1 clt c0 c1 c2 c3 c4 c5 c6 c7
   obtain ⟨c0, c1, c2, c3, c4, c5, c6, c7, clt⟩ := B2.c8
   go_wp2_with fail
   refine (HP.out _ G2).mono ?_
   rintro e6 w3 ⟨rfl, hg3⟩
   have G3 : Gr w w3 := G2.trans hg3
   have B3 := B2.gr hg3
   clear hg3 B2 clt c0 c1 c2 c3 c4 c5 c6 c7
   obtain ⟨c0, c1, c2, c3, c4, c5, c6, c7, clt⟩ := B3.c8
   go_wp2
   go_ret
   exact ⟨rfl, G3⟩

theorem rmove16 (r n : Int) (L : List (Int × Int)) (s y : Int) (d : ByteArray) (S : List Stp) (a1 : Option Addr) (e1 : Nat) (a2 : Option Addr) (e2 : Nat) (w : World) (h : MvIn w (⟨16, r, n, L, s, y, d, S⟩ : Mv) a1 e1 a2 e2) :
  Calls Tryz.prog 13 #[.agg #[.int .i64 16, .int .i64 r, .int .i64 n, .slice a1 L.length e1, .int .i64 s, .int .i64 y, .string d, .slice a2 S.length e2]] w fun e w' => e = .returned (.int .i64 (Rc.mvE (⟨16, r, n, L, s, y, d, S⟩ : Mv))) /\ Gr w w' := by
 have HI : Hid (∀ w', Gr w w' -> Calls Tryz.prog 29 #[.agg #[.int .i64 r, .int .i64 n, .slice a1 L.length e1]] w' fun e w2 => e = .returned (.int .i64 (if Idn.mayB r n L = true then 0 else 30)) /\ Gr w' w2) := fun w' g => refCheck_any r n L a1 e1 w' (h.hops.gr g) h.nL
 have HD : Hid (∀ w', Gr w w' -> Calls Tryz.prog 31 #[.agg #[.string d, .slice a2 S.length e2]] w' fun e w2 => e = .returned (.bool (Rc.baB d S)) /\ Gr w' w2) := fun w' _ => bare_any d S a2 e2 w'
 have HP : Hid (∀ w', Gr w w' -> Calls Tryz.prog 25 #[.int .i64 16] w' fun e w2 => e = .returned (.bool false) /\ Gr w' w2) := fun w' _ => (steps_any 16 w').mono fun _ _ q => ⟨q.1, by rw [q.2]; exact Gr.refl _⟩
 have HM : Hid (Rc.mvE (⟨16, r, n, L, s, y, d, S⟩ : Mv) = if (Idn.mayB r n L && (!false || decide (0 < L.length)) && Rc.baB d S && decide (y = 0) && Rc.inB s 0 1) = true then 0 else 140) := by
  show _ = _
  rfl
 generalize Rc.mvE (⟨16, r, n, L, s, y, d, S⟩ : Mv) = R at *
 generalize Idn.mayB r n L = bI at *
 generalize Rc.baB d S = bD at *
 clear h
 cases bI with
 | false =>
  rw [if_neg (by decide)] at HI
  obtain rfl : R = 140 := HM.out
  go_enter Tryz.func13, Tryz.ntmps13
  go_wp2_with fail
  refine (HI.out _ ?_).mono ?_
  ·exact (Gr.refl _).alloc
  rintro e4 w1 ⟨rfl, hg1⟩
  have G1 := (Gr.refl w).alloc.trans hg1
  have B1 := (Cs.new w _ _ _ rfl).gr hg1
  clear hg1
  obtain ⟨c0, c1, c2, c3, c4, c5, c6, c7, clt⟩ := B1.c8
  go_wp2
  go_ret
  exact ⟨rfl, G1⟩
 | true =>
  rw [if_pos rfl] at HI
  cases bD with
  | false =>
   replace HM : Hid (R = 140) := by show _ = _; rw [HM.out]; rfl
   obtain rfl : R = 140 := HM.out
   go_enter Tryz.func13, Tryz.ntmps13
   go_wp2_with fail
   refine (HI.out _ ?_).mono ?_
   ·exact (Gr.refl _).alloc
   rintro e4 w1 ⟨rfl, hg1⟩
   have G1 := (Gr.refl w).alloc.trans hg1
   have B1 := (Cs.new w _ _ _ rfl).gr hg1
   clear hg1
   obtain ⟨c0, c1, c2, c3, c4, c5, c6, c7, clt⟩ := B1.c8
   go_wp2_with fail
   refine (HD.out _ G1).mono ?_
   rintro e5 w2 ⟨rfl, hg2⟩
   have G2 : Gr w w2 := G1.trans hg2
   have B2 := B1.gr hg2
   clear hg2 B1 clt c0 c1 c2 c3 c4 c5 c6 c7
   obtain ⟨c0, c1, c2, c3, c4, c5, c6, c7, clt⟩ := B2.c8
   go_wp2
   go_ret
   exact ⟨rfl, G2⟩
  | true =>
   by_cases y0 : y = 0
   case neg =>
    have y0' : (y != 0) = true := by simpa using y0
    rw [decide_eq_false y0] at HM
    obtain rfl : R = 140 := HM.out
    go_enter Tryz.func13, Tryz.ntmps13
    go_wp2_with fail
    refine (HI.out _ ?_).mono ?_
    ·exact (Gr.refl _).alloc
    rintro e4 w1 ⟨rfl, hg1⟩
    have G1 := (Gr.refl w).alloc.trans hg1
    have B1 := (Cs.new w _ _ _ rfl).gr hg1
    clear hg1
    obtain ⟨c0, c1, c2, c3, c4, c5, c6, c7, clt⟩ := B1.c8
    go_wp2_with fail
    refine (HD.out _ G1).mono ?_
    rintro e5 w2 ⟨rfl, hg2⟩
    have G2 : Gr w w2 := G1.trans hg2
    have B2 := B1.gr hg2
    clear hg2 B1 clt c0 c1 c2 c3 c4 c5 c6 c7
    obtain ⟨c0, c1, c2, c3, c4, c5, c6, c7, clt⟩ := B2.c8
    go_wp2
    go_ret
    exact ⟨rfl, G2⟩
   subst y0
   rw [decide_eq_true rfl] at HM
   unfold Rc.inB at HM
   by_cases s0 : s < 0
   ·rw [decide_eq_false (by omega : ¬ 0 <= s)] at HM
    obtain rfl : R = 140 := HM.out
    go_enter Tryz.func13, Tryz.ntmps13
    go_wp2_with fail
    refine (HI.out _ ?_).mono ?_
    ·exact (Gr.refl _).alloc
    rintro e4 w1 ⟨rfl, hg1⟩
    have G1 := (Gr.refl w).alloc.trans hg1
    have B1 := (Cs.new w _ _ _ rfl).gr hg1
    clear hg1
    obtain ⟨c0, c1, c2, c3, c4, c5, c6, c7, clt⟩ := B1.c8
    go_wp2_with fail
    refine (HD.out _ G1).mono ?_
    rintro e5 w2 ⟨rfl, hg2⟩
    have G2 : Gr w w2 := G1.trans hg2
    have B2 := B1.gr hg2
    clear hg2 B1 clt c0 c1 c2 c3 c4 c5 c6 c7
    obtain ⟨c0, c1, c2, c3, c4, c5, c6, c7, clt⟩ := B2.c8
    go_wp2_with fail
    refine (HP.out _ G2).mono ?_
    rintro e6 w3 ⟨rfl, hg3⟩
    have G3 : Gr w w3 := G2.trans hg3
    have B3 := B2.gr hg3
    clear hg3 B2 clt c0 c1 c2 c3 c4 c5 c6 c7
    obtain ⟨c0, c1, c2, c3, c4, c5, c6, c7, clt⟩ := B3.c8
    go_wp2
    go_ret
    exact ⟨rfl, G3⟩
   rw [decide_eq_true (by omega : 0 <= s)] at HM
   by_cases s7 : 1 < s
   ·rw [decide_eq_false (by omega : ¬ s <= 1)] at HM
    obtain rfl : R = 140 := HM.out
    go_enter Tryz.func13, Tryz.ntmps13
    go_wp2_with fail
    refine (HI.out _ ?_).mono ?_
    ·exact (Gr.refl _).alloc
    rintro e4 w1 ⟨rfl, hg1⟩
    have G1 := (Gr.refl w).alloc.trans hg1
    have B1 := (Cs.new w _ _ _ rfl).gr hg1
    clear hg1
    obtain ⟨c0, c1, c2, c3, c4, c5, c6, c7, clt⟩ := B1.c8
    go_wp2_with fail
    refine (HD.out _ G1).mono ?_
    rintro e5 w2 ⟨rfl, hg2⟩
    have G2 : Gr w w2 := G1.trans hg2
    have B2 := B1.gr hg2
    clear hg2 B1 clt c0 c1 c2 c3 c4 c5 c6 c7
    obtain ⟨c0, c1, c2, c3, c4, c5, c6, c7, clt⟩ := B2.c8
    go_wp2_with fail
    refine (HP.out _ G2).mono ?_
    rintro e6 w3 ⟨rfl, hg3⟩
    have G3 : Gr w w3 := G2.trans hg3
    have B3 := B2.gr hg3
    clear hg3 B2 clt c0 c1 c2 c3 c4 c5 c6 c7
    obtain ⟨c0, c1, c2, c3, c4, c5, c6, c7, clt⟩ := B3.c8
    go_wp2
    go_ret
    exact ⟨rfl, G3⟩
   rw [decide_eq_true (by omega : s <= 1)] at HM
   obtain rfl : R = 0 := HM.out
   go_enter Tryz.func13, Tryz.ntmps13
   go_wp2_with fail
   refine (HI.out _ ?_).mono ?_
   ·exact (Gr.refl _).alloc
   rintro e4 w1 ⟨rfl, hg1⟩
   have G1 := (Gr.refl w).alloc.trans hg1
   have B1 := (Cs.new w _ _ _ rfl).gr hg1
   clear hg1
   obtain ⟨c0, c1, c2, c3, c4, c5, c6, c7, clt⟩ := B1.c8
   go_wp2_with fail
   refine (HD.out _ G1).mono ?_
   rintro e5 w2 ⟨rfl, hg2⟩
   have G2 : Gr w w2 := G1.trans hg2
   have B2 := B1.gr hg2
   clear hg2 B1 clt c0 c1 c2 c3 c4 c5 c6 c7
   obtain ⟨c0, c1, c2, c3, c4, c5, c6, c7, clt⟩ := B2.c8
   go_wp2_with fail
   refine (HP.out _ G2).mono ?_
   rintro e6 w3 ⟨rfl, hg3⟩
   have G3 : Gr w w3 := G2.trans hg3
   have B3 := B2.gr hg3
   clear hg3 B2 clt c0 c1 c2 c3 c4 c5 c6 c7
   obtain ⟨c0, c1, c2, c3, c4, c5, c6, c7, clt⟩ := B3.c8
   go_wp2
   go_ret
   exact ⟨rfl, G3⟩

theorem rmoveS (k : Int) (r n : Int) (L : List (Int × Int)) (s y : Int) (d : ByteArray) (S : List Stp) (a1 : Option Addr) (e1 : Nat) (a2 : Option Addr) (e2 : Nat) (w : World) (h : MvIn w (⟨k, r, n, L, s, y, d, S⟩ : Mv) a1 e1 a2 e2) (hk1 : ¬ k = 1) (hk2 : ¬ k = 2) (q1 : (k == 1) = false) (q2 : (k == 2) = false) (q10 : (k == 10) = false) (q16 : (k == 16) = false) (n1 : (k != 1) = true) (lo : ¬ k < 1) (hi : ¬ 16 < k) (hin : Rc.inB k 1 16 = true) (hwy : Rc.wyK k = false) (hst : Rc.stK k = 8) (hs8 : stpB8 k = true) :
  Calls Tryz.prog 13 #[.agg #[.int .i64 k, .int .i64 r, .int .i64 n, .slice a1 L.length e1, .int .i64 s, .int .i64 y, .string d, .slice a2 S.length e2]] w fun e w' => e = .returned (.int .i64 (Rc.mvE (⟨k, r, n, L, s, y, d, S⟩ : Mv))) /\ Gr w w' := by
 have HI : Hid (∀ w', Gr w w' -> Calls Tryz.prog 29 #[.agg #[.int .i64 r, .int .i64 n, .slice a1 L.length e1]] w' fun e w2 => e = .returned (.int .i64 (if Idn.mayB r n L = true then 0 else 30)) /\ Gr w' w2) := fun w' g => refCheck_any r n L a1 e1 w' (h.hops.gr g) h.nL
 have HD : Hid (∀ w', Gr w w' -> Calls Tryz.prog 31 #[.agg #[.string d, .slice a2 S.length e2]] w' fun e w2 => e = .returned (.bool (Rc.baB d S)) /\ Gr w' w2) := fun w' _ => bare_any d S a2 e2 w'
 have HP : Hid (∀ w', Gr w w' -> Calls Tryz.prog 25 #[.int .i64 k] w' fun e w2 => e = .returned (.bool true) /\ Gr w' w2) := fun w' _ => (steps_any k w').mono fun _ _ q => ⟨by rw [q.1, hs8], by rw [q.2]; exact Gr.refl _⟩
 have HM : Hid (Rc.mvE (⟨k, r, n, L, s, y, d, S⟩ : Mv) = if (Idn.mayB r n L && (!false || decide (0 < L.length)) && Rc.baB d S && decide (y = 0) && Rc.inB s 0 7) = true then 0 else 140) := by
  show _ = _
  unfold Rc.mvE Rc.mvB Rc.mvF Rc.idB Rc.dfB Rc.wyB Rc.stB; simp only; rw [hin, hst, hwy, decide_eq_false hk1, decide_eq_false hk2]; rfl
 generalize Rc.mvE (⟨k, r, n, L, s, y, d, S⟩ : Mv) = R at *
 generalize Idn.mayB r n L = bI at *
 generalize Rc.baB d S = bD at *
 clear h
 clear hin hst hwy hs8 hk1 hk2
 cases bI with
 | false =>
  rw [if_neg (by decide)] at HI
  obtain rfl : R = 140 := HM.out
  go_enter Tryz.func13, Tryz.ntmps13
  go_wp2_with fail
  refine (HI.out _ ?_).mono ?_
  ·exact (Gr.refl _).alloc
  rintro e4 w1 ⟨rfl, hg1⟩
  have G1 := (Gr.refl w).alloc.trans hg1
  have B1 := (Cs.new w _ _ _ rfl).gr hg1
  clear hg1
  obtain ⟨c0, c1, c2, c3, c4, c5, c6, c7, clt⟩ := B1.c8
  go_wp2
  go_ret
  exact ⟨rfl, G1⟩
 | true =>
  rw [if_pos rfl] at HI
  cases bD with
  | false =>
   replace HM : Hid (R = 140) := by show _ = _; rw [HM.out]; rfl
   obtain rfl : R = 140 := HM.out
   go_enter Tryz.func13, Tryz.ntmps13
   go_wp2_with fail
   refine (HI.out _ ?_).mono ?_
   ·exact (Gr.refl _).alloc
   rintro e4 w1 ⟨rfl, hg1⟩
   have G1 := (Gr.refl w).alloc.trans hg1
   have B1 := (Cs.new w _ _ _ rfl).gr hg1
   clear hg1
   obtain ⟨c0, c1, c2, c3, c4, c5, c6, c7, clt⟩ := B1.c8
   go_wp2_with fail
   refine (HD.out _ G1).mono ?_
   rintro e5 w2 ⟨rfl, hg2⟩
   have G2 : Gr w w2 := G1.trans hg2
   have B2 := B1.gr hg2
   clear hg2 B1 clt c0 c1 c2 c3 c4 c5 c6 c7
   obtain ⟨c0, c1, c2, c3, c4, c5, c6, c7, clt⟩ := B2.c8
   go_wp2
   go_ret
   exact ⟨rfl, G2⟩
  | true =>
   by_cases y0 : y = 0
   case neg =>
    have y0' : (y != 0) = true := by simpa using y0
    rw [decide_eq_false y0] at HM
    obtain rfl : R = 140 := HM.out
    go_enter Tryz.func13, Tryz.ntmps13
    go_wp2_with fail
    refine (HI.out _ ?_).mono ?_
    ·exact (Gr.refl _).alloc
    rintro e4 w1 ⟨rfl, hg1⟩
    have G1 := (Gr.refl w).alloc.trans hg1
    have B1 := (Cs.new w _ _ _ rfl).gr hg1
    clear hg1
    obtain ⟨c0, c1, c2, c3, c4, c5, c6, c7, clt⟩ := B1.c8
    go_wp2_with fail
    refine (HD.out _ G1).mono ?_
    rintro e5 w2 ⟨rfl, hg2⟩
    have G2 : Gr w w2 := G1.trans hg2
    have B2 := B1.gr hg2
    clear hg2 B1 clt c0 c1 c2 c3 c4 c5 c6 c7
    obtain ⟨c0, c1, c2, c3, c4, c5, c6, c7, clt⟩ := B2.c8
    go_wp2
    go_ret
    exact ⟨rfl, G2⟩
   subst y0
   rw [decide_eq_true rfl] at HM
   unfold Rc.inB at HM
   by_cases s0 : s < 0
   ·rw [decide_eq_false (by omega : ¬ 0 <= s)] at HM
    obtain rfl : R = 140 := HM.out
    go_enter Tryz.func13, Tryz.ntmps13
    go_wp2_with fail
    refine (HI.out _ ?_).mono ?_
    ·exact (Gr.refl _).alloc
    rintro e4 w1 ⟨rfl, hg1⟩
    have G1 := (Gr.refl w).alloc.trans hg1
    have B1 := (Cs.new w _ _ _ rfl).gr hg1
    clear hg1
    obtain ⟨c0, c1, c2, c3, c4, c5, c6, c7, clt⟩ := B1.c8
    go_wp2_with fail
    refine (HD.out _ G1).mono ?_
    rintro e5 w2 ⟨rfl, hg2⟩
    have G2 : Gr w w2 := G1.trans hg2
    have B2 := B1.gr hg2
    clear hg2 B1 clt c0 c1 c2 c3 c4 c5 c6 c7
    obtain ⟨c0, c1, c2, c3, c4, c5, c6, c7, clt⟩ := B2.c8
    go_wp2_with fail
    refine (HP.out _ G2).mono ?_
    rintro e6 w3 ⟨rfl, hg3⟩
    have G3 : Gr w w3 := G2.trans hg3
    have B3 := B2.gr hg3
    clear hg3 B2 clt c0 c1 c2 c3 c4 c5 c6 c7
    obtain ⟨c0, c1, c2, c3, c4, c5, c6, c7, clt⟩ := B3.c8
    go_wp2
    go_ret
    exact ⟨rfl, G3⟩
   rw [decide_eq_true (by omega : 0 <= s)] at HM
   by_cases s7 : 7 < s
   ·rw [decide_eq_false (by omega : ¬ s <= 7)] at HM
    obtain rfl : R = 140 := HM.out
    go_enter Tryz.func13, Tryz.ntmps13
    go_wp2_with fail
    refine (HI.out _ ?_).mono ?_
    ·exact (Gr.refl _).alloc
    rintro e4 w1 ⟨rfl, hg1⟩
    have G1 := (Gr.refl w).alloc.trans hg1
    have B1 := (Cs.new w _ _ _ rfl).gr hg1
    clear hg1
    obtain ⟨c0, c1, c2, c3, c4, c5, c6, c7, clt⟩ := B1.c8
    go_wp2_with fail
    refine (HD.out _ G1).mono ?_
    rintro e5 w2 ⟨rfl, hg2⟩
    have G2 : Gr w w2 := G1.trans hg2
    have B2 := B1.gr hg2
    clear hg2 B1 clt c0 c1 c2 c3 c4 c5 c6 c7
    obtain ⟨c0, c1, c2, c3, c4, c5, c6, c7, clt⟩ := B2.c8
    go_wp2_with fail
    refine (HP.out _ G2).mono ?_
    rintro e6 w3 ⟨rfl, hg3⟩
    have G3 : Gr w w3 := G2.trans hg3
    have B3 := B2.gr hg3
    clear hg3 B2 clt c0 c1 c2 c3 c4 c5 c6 c7
    obtain ⟨c0, c1, c2, c3, c4, c5, c6, c7, clt⟩ := B3.c8
    go_wp2
    go_ret
    exact ⟨rfl, G3⟩
   rw [decide_eq_true (by omega : s <= 7)] at HM
   obtain rfl : R = 0 := HM.out
   go_enter Tryz.func13, Tryz.ntmps13
   go_wp2_with fail
   refine (HI.out _ ?_).mono ?_
   ·exact (Gr.refl _).alloc
   rintro e4 w1 ⟨rfl, hg1⟩
   have G1 := (Gr.refl w).alloc.trans hg1
   have B1 := (Cs.new w _ _ _ rfl).gr hg1
   clear hg1
   obtain ⟨c0, c1, c2, c3, c4, c5, c6, c7, clt⟩ := B1.c8
   go_wp2_with fail
   refine (HD.out _ G1).mono ?_
   rintro e5 w2 ⟨rfl, hg2⟩
   have G2 : Gr w w2 := G1.trans hg2
   have B2 := B1.gr hg2
   clear hg2 B1 clt c0 c1 c2 c3 c4 c5 c6 c7
   obtain ⟨c0, c1, c2, c3, c4, c5, c6, c7, clt⟩ := B2.c8
   go_wp2_with fail
   refine (HP.out _ G2).mono ?_
   rintro e6 w3 ⟨rfl, hg3⟩
   have G3 : Gr w w3 := G2.trans hg3
   have B3 := B2.gr hg3
   clear hg3 B2 clt c0 c1 c2 c3 c4 c5 c6 c7
   obtain ⟨c0, c1, c2, c3, c4, c5, c6, c7, clt⟩ := B3.c8
   go_wp2
   go_ret
   exact ⟨rfl, G3⟩

theorem rmoveN (k : Int) (r n : Int) (L : List (Int × Int)) (s y : Int) (d : ByteArray) (S : List Stp) (a1 : Option Addr) (e1 : Nat) (a2 : Option Addr) (e2 : Nat) (w : World) (h : MvIn w (⟨k, r, n, L, s, y, d, S⟩ : Mv) a1 e1 a2 e2) (hk1 : ¬ k = 1) (hk2 : ¬ k = 2) (q1 : (k == 1) = false) (q2 : (k == 2) = false) (q10 : (k == 10) = false) (q16 : (k == 16) = false) (n1 : (k != 1) = true) (lo : ¬ k < 1) (hi : ¬ 16 < k) (hin : Rc.inB k 1 16 = true) (hwy : Rc.wyK k = false) (hst : Rc.stK k = 0) (hs8 : stpB8 k = false) :
  Calls Tryz.prog 13 #[.agg #[.int .i64 k, .int .i64 r, .int .i64 n, .slice a1 L.length e1, .int .i64 s, .int .i64 y, .string d, .slice a2 S.length e2]] w fun e w' => e = .returned (.int .i64 (Rc.mvE (⟨k, r, n, L, s, y, d, S⟩ : Mv))) /\ Gr w w' := by
 have HI : Hid (∀ w', Gr w w' -> Calls Tryz.prog 29 #[.agg #[.int .i64 r, .int .i64 n, .slice a1 L.length e1]] w' fun e w2 => e = .returned (.int .i64 (if Idn.mayB r n L = true then 0 else 30)) /\ Gr w' w2) := fun w' g => refCheck_any r n L a1 e1 w' (h.hops.gr g) h.nL
 have HD : Hid (∀ w', Gr w w' -> Calls Tryz.prog 31 #[.agg #[.string d, .slice a2 S.length e2]] w' fun e w2 => e = .returned (.bool (Rc.baB d S)) /\ Gr w' w2) := fun w' _ => bare_any d S a2 e2 w'
 have HP : Hid (∀ w', Gr w w' -> Calls Tryz.prog 25 #[.int .i64 k] w' fun e w2 => e = .returned (.bool false) /\ Gr w' w2) := fun w' _ => (steps_any k w').mono fun _ _ q => ⟨by rw [q.1, hs8], by rw [q.2]; exact Gr.refl _⟩
 have HM : Hid (Rc.mvE (⟨k, r, n, L, s, y, d, S⟩ : Mv) = if (Idn.mayB r n L && (!false || decide (0 < L.length)) && Rc.baB d S && decide (y = 0) && decide (s = 0)) = true then 0 else 140) := by
  show _ = _
  unfold Rc.mvE Rc.mvB Rc.mvF Rc.idB Rc.dfB Rc.wyB Rc.stB; simp only; rw [hin, hst, hwy, decide_eq_false hk1, decide_eq_false hk2]; rfl
 generalize Rc.mvE (⟨k, r, n, L, s, y, d, S⟩ : Mv) = R at *
 generalize Idn.mayB r n L = bI at *
 generalize Rc.baB d S = bD at *
 clear h
 clear hin hst hwy hs8 hk1 hk2
 cases bI with
 | false =>
  rw [if_neg (by decide)] at HI
  obtain rfl : R = 140 := HM.out
  go_enter Tryz.func13, Tryz.ntmps13
  go_wp2_with fail
  refine (HI.out _ ?_).mono ?_
  ·exact (Gr.refl _).alloc
  rintro e4 w1 ⟨rfl, hg1⟩
  have G1 := (Gr.refl w).alloc.trans hg1
  have B1 := (Cs.new w _ _ _ rfl).gr hg1
  clear hg1
  obtain ⟨c0, c1, c2, c3, c4, c5, c6, c7, clt⟩ := B1.c8
  go_wp2
  go_ret
  exact ⟨rfl, G1⟩
 | true =>
  rw [if_pos rfl] at HI
  cases bD with
  | false =>
   replace HM : Hid (R = 140) := by show _ = _; rw [HM.out]; rfl
   obtain rfl : R = 140 := HM.out
   go_enter Tryz.func13, Tryz.ntmps13
   go_wp2_with fail
   refine (HI.out _ ?_).mono ?_
   ·exact (Gr.refl _).alloc
   rintro e4 w1 ⟨rfl, hg1⟩
   have G1 := (Gr.refl w).alloc.trans hg1
   have B1 := (Cs.new w _ _ _ rfl).gr hg1
   clear hg1
   obtain ⟨c0, c1, c2, c3, c4, c5, c6, c7, clt⟩ := B1.c8
   go_wp2_with fail
   refine (HD.out _ G1).mono ?_
   rintro e5 w2 ⟨rfl, hg2⟩
   have G2 : Gr w w2 := G1.trans hg2
   have B2 := B1.gr hg2
   clear hg2 B1 clt c0 c1 c2 c3 c4 c5 c6 c7
   obtain ⟨c0, c1, c2, c3, c4, c5, c6, c7, clt⟩ := B2.c8
   go_wp2
   go_ret
   exact ⟨rfl, G2⟩
  | true =>
   by_cases y0 : y = 0
   case neg =>
    have y0' : (y != 0) = true := by simpa using y0
    rw [decide_eq_false y0] at HM
    obtain rfl : R = 140 := HM.out
    go_enter Tryz.func13, Tryz.ntmps13
    go_wp2_with fail
    refine (HI.out _ ?_).mono ?_
    ·exact (Gr.refl _).alloc
    rintro e4 w1 ⟨rfl, hg1⟩
    have G1 := (Gr.refl w).alloc.trans hg1
    have B1 := (Cs.new w _ _ _ rfl).gr hg1
    clear hg1
    obtain ⟨c0, c1, c2, c3, c4, c5, c6, c7, clt⟩ := B1.c8
    go_wp2_with fail
    refine (HD.out _ G1).mono ?_
    rintro e5 w2 ⟨rfl, hg2⟩
    have G2 : Gr w w2 := G1.trans hg2
    have B2 := B1.gr hg2
    clear hg2 B1 clt c0 c1 c2 c3 c4 c5 c6 c7
    obtain ⟨c0, c1, c2, c3, c4, c5, c6, c7, clt⟩ := B2.c8
    go_wp2
    go_ret
    exact ⟨rfl, G2⟩
   subst y0
   rw [decide_eq_true rfl] at HM
   by_cases s0 : s < 0
   ·rw [decide_eq_false (by omega : ¬ s = 0)] at HM
    obtain rfl : R = 140 := HM.out
    go_enter Tryz.func13, Tryz.ntmps13
    go_wp2_with fail
    refine (HI.out _ ?_).mono ?_
    ·exact (Gr.refl _).alloc
    rintro e4 w1 ⟨rfl, hg1⟩
    have G1 := (Gr.refl w).alloc.trans hg1
    have B1 := (Cs.new w _ _ _ rfl).gr hg1
    clear hg1
    obtain ⟨c0, c1, c2, c3, c4, c5, c6, c7, clt⟩ := B1.c8
    go_wp2_with fail
    refine (HD.out _ G1).mono ?_
    rintro e5 w2 ⟨rfl, hg2⟩
    have G2 : Gr w w2 := G1.trans hg2
    have B2 := B1.gr hg2
    clear hg2 B1 clt c0 c1 c2 c3 c4 c5 c6 c7
    obtain ⟨c0, c1, c2, c3, c4, c5, c6, c7, clt⟩ := B2.c8
    go_wp2_with fail
    refine (HP.out _ G2).mono ?_
    rintro e6 w3 ⟨rfl, hg3⟩
    have G3 : Gr w w3 := G2.trans hg3
    have B3 := B2.gr hg3
    clear hg3 B2 clt c0 c1 c2 c3 c4 c5 c6 c7
    obtain ⟨c0, c1, c2, c3, c4, c5, c6, c7, clt⟩ := B3.c8
    go_wp2
    go_ret
    exact ⟨rfl, G3⟩
   by_cases s7 : 0 < s
   ·rw [decide_eq_false (by omega : ¬ s = 0)] at HM
    obtain rfl : R = 140 := HM.out
    go_enter Tryz.func13, Tryz.ntmps13
    go_wp2_with fail
    refine (HI.out _ ?_).mono ?_
    ·exact (Gr.refl _).alloc
    rintro e4 w1 ⟨rfl, hg1⟩
    have G1 := (Gr.refl w).alloc.trans hg1
    have B1 := (Cs.new w _ _ _ rfl).gr hg1
    clear hg1
    obtain ⟨c0, c1, c2, c3, c4, c5, c6, c7, clt⟩ := B1.c8
    go_wp2_with fail
    refine (HD.out _ G1).mono ?_
    rintro e5 w2 ⟨rfl, hg2⟩
    have G2 : Gr w w2 := G1.trans hg2
    have B2 := B1.gr hg2
    clear hg2 B1 clt c0 c1 c2 c3 c4 c5 c6 c7
    obtain ⟨c0, c1, c2, c3, c4, c5, c6, c7, clt⟩ := B2.c8
    go_wp2_with fail
    refine (HP.out _ G2).mono ?_
    rintro e6 w3 ⟨rfl, hg3⟩
    have G3 : Gr w w3 := G2.trans hg3
    have B3 := B2.gr hg3
    clear hg3 B2 clt c0 c1 c2 c3 c4 c5 c6 c7
    obtain ⟨c0, c1, c2, c3, c4, c5, c6, c7, clt⟩ := B3.c8
    go_wp2
    go_ret
    exact ⟨rfl, G3⟩
   rw [decide_eq_true (by omega : s = 0)] at HM
   obtain rfl : R = 0 := HM.out
   go_enter Tryz.func13, Tryz.ntmps13
   go_wp2_with fail
   refine (HI.out _ ?_).mono ?_
   ·exact (Gr.refl _).alloc
   rintro e4 w1 ⟨rfl, hg1⟩
   have G1 := (Gr.refl w).alloc.trans hg1
   have B1 := (Cs.new w _ _ _ rfl).gr hg1
   clear hg1
   obtain ⟨c0, c1, c2, c3, c4, c5, c6, c7, clt⟩ := B1.c8
   go_wp2_with fail
   refine (HD.out _ G1).mono ?_
   rintro e5 w2 ⟨rfl, hg2⟩
   have G2 : Gr w w2 := G1.trans hg2
   have B2 := B1.gr hg2
   clear hg2 B1 clt c0 c1 c2 c3 c4 c5 c6 c7
   obtain ⟨c0, c1, c2, c3, c4, c5, c6, c7, clt⟩ := B2.c8
   go_wp2_with fail
   refine (HP.out _ G2).mono ?_
   rintro e6 w3 ⟨rfl, hg3⟩
   have G3 : Gr w w3 := G2.trans hg3
   have B3 := B2.gr hg3
   clear hg3 B2 clt c0 c1 c2 c3 c4 c5 c6 c7
   obtain ⟨c0, c1, c2, c3, c4, c5, c6, c7, clt⟩ := B3.c8
   go_wp2
   go_ret
   exact ⟨rfl, G3⟩

theorem rmoveL (k : Int) (r n : Int) (L : List (Int × Int)) (s y : Int) (d : ByteArray) (S : List Stp) (a1 : Option Addr) (e1 : Nat) (a2 : Option Addr) (e2 : Nat) (w : World) (h : k < 1) :
  Calls Tryz.prog 13 #[.agg #[.int .i64 k, .int .i64 r, .int .i64 n, .slice a1 L.length e1, .int .i64 s, .int .i64 y, .string d, .slice a2 S.length e2]] w fun e w' => e = .returned (.int .i64 (Rc.mvE (⟨k, r, n, L, s, y, d, S⟩ : Mv))) /\ Gr w w' := by
 have HM : Hid (Rc.mvE (⟨k, r, n, L, s, y, d, S⟩ : Mv) = 140) := by
  show _ = _
  unfold Rc.mvE Rc.mvB Rc.inB
  simp only
  rw [decide_eq_false (by omega : ¬ 1 <= k)]; rfl
 generalize Rc.mvE (⟨k, r, n, L, s, y, d, S⟩ : Mv) = R at *
 obtain rfl : R = 140 := HM.out
 clear HM
 go_enter Tryz.func13, Tryz.ntmps13
 go_wp2
 go_ret
 exact ⟨rfl, (by repeat(first|exact Gr.r _|refine Gr.a ?_|refine Gr.d ?_|refine Gr.t ?_ (by assumption)))⟩

theorem rmoveH (k : Int) (r n : Int) (L : List (Int × Int)) (s y : Int) (d : ByteArray) (S : List Stp) (a1 : Option Addr) (e1 : Nat) (a2 : Option Addr) (e2 : Nat) (w : World) (h : 16 < k) :
  Calls Tryz.prog 13 #[.agg #[.int .i64 k, .int .i64 r, .int .i64 n, .slice a1 L.length e1, .int .i64 s, .int .i64 y, .string d, .slice a2 S.length e2]] w fun e w' => e = .returned (.int .i64 (Rc.mvE (⟨k, r, n, L, s, y, d, S⟩ : Mv))) /\ Gr w w' := by
 have HM : Hid (Rc.mvE (⟨k, r, n, L, s, y, d, S⟩ : Mv) = 140) := by
  show _ = _
  unfold Rc.mvE Rc.mvB Rc.inB
  simp only
  rw [decide_eq_false (by omega : ¬ k <= 16), Bool.and_false]; rfl
 generalize Rc.mvE (⟨k, r, n, L, s, y, d, S⟩ : Mv) = R at *
 obtain rfl : R = 140 := HM.out
 clear HM
 have h1 : ¬ k < 1 := by omega
 go_enter Tryz.func13, Tryz.ntmps13
 go_wp2
 go_ret
 exact ⟨rfl, (by repeat(first|exact Gr.r _|refine Gr.a ?_|refine Gr.d ?_|refine Gr.t ?_ (by assumption)))⟩


theorem rmove_any (k : Int) (r n : Int) (L : List (Int × Int)) (s y : Int) (d : ByteArray) (S : List Stp) (a1 : Option Addr) (e1 : Nat) (a2 : Option Addr) (e2 : Nat) (w : World) (h : MvIn w (⟨k, r, n, L, s, y, d, S⟩ : Mv) a1 e1 a2 e2) :
  Calls Tryz.prog 13 #[.agg #[.int .i64 k, .int .i64 r, .int .i64 n, .slice a1 L.length e1, .int .i64 s, .int .i64 y, .string d, .slice a2 S.length e2]] w fun e w' => e = .returned (.int .i64 (Rc.mvE (⟨k, r, n, L, s, y, d, S⟩ : Mv))) /\ Gr w w' := by
 by_cases lo : k < 1
 ·exact rmoveL k r n L s y d S a1 e1 a2 e2 w lo
 by_cases hi : 16 < k
 ·exact rmoveH k r n L s y d S a1 e1 a2 e2 w hi
 by_cases h1 : k = 1
 ·subst h1; exact rmove1 r n L s y d S a1 e1 a2 e2 w h
 by_cases h2 : k = 2
 ·subst h2; exact rmove2 r n L s y d S a1 e1 a2 e2 w h
 by_cases h10 : k = 10
 ·subst h10; exact rmove10 r n L s y d S a1 e1 a2 e2 w h
 by_cases h16 : k = 16
 ·subst h16; exact rmove16 r n L s y d S a1 e1 a2 e2 w h
 have hin : Rc.inB k 1 16 = true := Rc.inB_iff.2 (by omega)
 have hwy : Rc.wyK k = false := by unfold Rc.wyK; rw [decide_eq_false h2, decide_eq_false h10]; rfl
 have q1 : (k == 1) = false := by simpa using h1
 have q2 : (k == 2) = false := by simpa using h2
 have q10 : (k == 10) = false := by simpa using h10
 have q16 : (k == 16) = false := by simpa using h16
 have n1 : (k != 1) = true := by simpa using h1
 by_cases h8 : k = 3 ∨ k = 4 ∨ k = 5 ∨ k = 6 ∨ k = 7 ∨ k = 11 ∨ k = 12 ∨ k = 15
 ·have hst : Rc.stK k = 8 := by unfold Rc.stK; rw [if_pos h8]
  have hs8 : stpB8 k = true := by unfold stpB8; simp only [Bool.or_eq_true, decide_eq_true_eq]; omega
  exact rmoveS k r n L s y d S a1 e1 a2 e2 w h h1 h2 q1 q2 q10 q16 n1 lo hi hin hwy hst hs8
 ·have hst : Rc.stK k = 0 := by unfold Rc.stK; rw [if_neg h8, if_neg h16]
  have hs8 : stpB8 k = false := by
   cases hb : stpB8 k with
   | false => rfl
   | true =>
    unfold stpB8 at hb
    simp only [Bool.or_eq_true, decide_eq_true_eq] at hb
    omega
  exact rmoveN k r n L s y d S a1 e1 a2 e2 w h h1 h2 q1 q2 q10 q16 n1 lo hi hin hwy hst hs8
end Go.Proofs.YthaadiclopoamaaGreatDoor
