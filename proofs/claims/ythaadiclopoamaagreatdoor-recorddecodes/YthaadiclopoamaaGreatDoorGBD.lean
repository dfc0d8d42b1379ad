/- Parts of these proofs, laid together. -/
import Derived.Test.YthaadiclopoamaaGreatDoorGBB
import Derived.Test.YthaadiclopoamaaGreatDoorGBC
/- the document's record: Move. -/
set_option maxRecDepth 100000
set_option maxHeartbeats 8000000
namespace Go.Proofs.YthaadiclopoamaaGreatDoor
open Go.RowKit
open Df (Stp)

theorem rmove1 (r n : Int) (L : List (Int × Int)) (s y : Int) (d : ByteArray) (S : List Stp) (a1 : Option Addr) (e1 : Nat) (a2 : Option Addr) (e2 : Nat) (w : World) (h : MvIn w (⟨1, r, n, L, s, y, d, S⟩ : Mv) a1 e1 a2 e2) :
  Calls Tryz.prog 13 #[.agg #[.int .i64 1, .int .i64 r, .int .i64 n, .slice a1 L.length e1, .int .i64 s, .int .i64 y, .string d, .slice a2 S.length e2]] w fun e w' => e = .returned (.int .i64 (Rc.mvE (⟨1, r, n, L, s, y, d, S⟩ : Mv))) /\ Gr w w' := by
 have HI : Hid (∀ w', Gr w w' -> Calls Tryz.prog 29 #[.agg #[.int .i64 r, .int .i64 n, .slice a1 L.length e1]] w' fun e w2 => e = .returned (.int .i64 (if Idn.mayB r n L = true then 0 else 30)) /\ Gr w' w2) := fun w' g => refCheck_any r n L a1 e1 w' (h.hops.gr g) h.nL
 have HD : Hid (∀ w', Gr w w' -> Calls Tryz.prog 30 #[.agg #[.string d, .slice a2 S.length e2]] w' fun e w2 => e = .returned (.int .i64 (if Df.defB d S = true then 0 else 90)) /\ Gr w' w2) := fun w' g => refDCheck_any d S a2 e2 w' (h.stps.gr g) h.nd h.nS h.inS
 have HP : Hid (∀ w', Gr w w' -> Calls Tryz.prog 25 #[.int .i64 1] w' fun e w2 => e = .returned (.bool false) /\ Gr w' w2) := fun w' _ => (steps_any 1 w').mono fun _ _ q => ⟨q.1, by rw [q.2]; exact Gr.refl _⟩
 have HM : Hid (Rc.mvE (⟨1, r, n, L, s, y, d, S⟩ : Mv) = if (Idn.mayB r n L && (!false || decide (0 < L.length)) && Df.defB d S && decide (y = 0) && decide (s = 0)) = true then 0 else 140) := by
  show _ = _
  rfl
 generalize Rc.mvE (⟨1, r, n, L, s, y, d, S⟩ : Mv) = R at *
 generalize Idn.mayB r n L = bI at *
 generalize Df.defB d S = bD at *
 clear h
 cases bI with
 | false =>
  rw [if_neg (by decide)] at HI
  obtain rfl : R = 140 := HM.out
  go_enter Tryz.func13, Tryz.ntmps13
  go_wp2_with fail
  refine (HI.out _ ?_).mono ?_
  ·exact (Gr.refl _).alloc
  rintro e4 w1 ⟨rfl, hg1⟩
  have G1 := (Gr.refl w).alloc.trans hg1
  have B1 := (Cs.new w _ _ _ rfl).gr hg1
  clear hg1
  obtain ⟨c0, c1, c2, c3, c4, c5, c6, c7, clt⟩ := B1.c8
  go_wp2
  go_ret
  exact ⟨rfl, G1⟩
 | true =>
  rw [if_pos rfl] at HI
  cases bD with
  | false =>
   replace HM : Hid (R = 140) := by show _ = _; rw [HM.out]; rfl
   rw [if_neg (by decide)] at HD
   obtain rfl : R = 140 := HM.out
   go_enter Tryz.func13, Tryz.ntmps13
   go_wp2_with fail
   refine (HI.out _ ?_).mono ?_
   ·exact (Gr.refl _).alloc
   rintro e4 w1 ⟨rfl, hg1⟩
   have G1 := (Gr.refl w).alloc.trans hg1
   have B1 := (Cs.new w _ _ _ rfl).gr hg1
   clear hg1
   obtain ⟨c0, c1, c2, c3, c4, c5, c6, c7, clt⟩ := B1.c8
   go_wp2_with fail
   refine (HD.out _ G1).mono ?_
   rintro e5 w2 ⟨rfl, hg2⟩
   have G2 : Gr w w2 := G1.trans hg2
   have B2 := B1.gr hg2
   clear hg2 B1 clt c0 c1 c2 c3 c4 c5 c6 c7
   obtain ⟨c0, c1, c2, c3, c4, c5, c6, c7, clt⟩ := B2.c8
   go_wp2
   go_ret
   exact ⟨rfl, G2⟩
  | true =>
   rw [if_pos rfl] at HD
   by_cases y0 : y = 0
   case neg =>
    have y0' : (y != 0) = true := by simpa using y0
    rw [decide_eq_false y0] at HM
    obtain rfl : R = 140 := HM.out
    go_enter Tryz.func13, Tryz.ntmps13
    go_wp2_with fail
    refine (HI.out _ ?_).mono ?_
    ·exact (Gr.refl _).alloc
    rintro e4 w1 ⟨rfl, hg1⟩
    have G1 := (Gr.refl w).alloc.trans hg1
    have B1 := (Cs.new w _ _ _ rfl).gr hg1
    clear hg1
    obtain ⟨c0, c1, c2, c3, c4, c5, c6, c7, clt⟩ := B1.c8
    go_wp2_with fail
    refine (HD.out _ G1).mono ?_
    rintro e5 w2 ⟨rfl, hg2⟩
    have G2 : Gr w w2 := G1.trans hg2
    have B2 := B1.gr hg2
    clear hg2 B1 clt c0 c1 c2 c3 c4 c5 c6 c7
    obtain ⟨c0, c1, c2, c3, c4, c5, c6, c7, clt⟩ := B2.c8
    go_wp2
    go_ret
    exact ⟨rfl, G2⟩
   subst y0
   rw [decide_eq_true rfl] at HM
   by_cases s0 : s < 0
   ·rw [decide_eq_false (by omega : ¬ s = 0)] at HM
    obtain rfl : R = 140 := HM.out
    go_enter Tryz.func13, Tryz.ntmps13
    go_wp2_with fail
    refine (HI.out _ ?_).mono ?_
    ·exact (Gr.refl _).alloc
    rintro e4 w1 ⟨rfl, hg1⟩
    have G1 := (Gr.refl w).alloc.trans hg1
    have B1 := (Cs.new w _ _ _ rfl).gr hg1
    clear hg1
    obtain ⟨c0, c1, c2, c3, c4, c5, c6, c7, clt⟩ := B1.c8
    go_wp2_with fail
    refine (HD.out _ G1).mono ?_
    rintro e5 w2 ⟨rfl, hg2⟩
    have G2 : Gr w w2 := G1.trans hg2
    have B2 := B1.gr hg2
    clear hg2 B1 clt c0 c1 c2 c3 c4 c5 c6 c7
    obtain ⟨c0, c1, c2, c3, c4, c5, c6, c7, clt⟩ := B2.c8
    go_wp2_with fail
    refine (HP.out _ G2).mono ?_
    rintro e6 w3 ⟨rfl, hg3⟩
    have G3 : Gr w w3 := G2.trans hg3
    have B3 := B2.gr hg3
    clear hg3 B2 clt c0 c1 c2 c3 c4 c5 c6 c7
    obtain ⟨c0, c1, c2, c3, c4, c5, c6, c7, clt⟩ := B3.c8
    go_wp2
    go_ret
    exact ⟨rfl, G3⟩
   by_cases s7 : 0 < s
   ·rw [decide_eq_false (by omega : ¬ s = 0)] at HM
    obtain rfl : R = 140 := HM.out
    go_enter Tryz.func13, Tryz.ntmps13
    go_wp2_with fail
    refine (HI.out _ ?_).mono ?_
    ·exact (Gr.refl _).alloc
    rintro e4 w1 ⟨rfl, hg1⟩
    have G1 := (Gr.refl w).alloc.trans hg1
    have B1 := (Cs.new w _ _ _ rfl).gr hg1
    clear hg1
    obtain ⟨c0, c1, c2, c3, c4, c5, c6, c7, clt⟩ := B1.c8
    go_wp2_with fail
    refine (HD.out _ G1).mono ?_
    rintro e5 w2 ⟨rfl, hg2⟩
    have G2 : Gr w w2 := G1.trans hg2
    have B2 := B1.gr hg2
    clear hg2 B1 clt c0 c1 c2 c3 c4 c5 c6 c7
    obtain ⟨c0, c1, c2, c3, c4, c5, c6, c7, clt⟩ := B2.c8
    go_wp2_with fail
    refine (HP.out _ G2).mono ?_
    rintro e6 w3 ⟨rfl, hg3⟩
    have G3 : Gr w w3 := G2.trans hg3
    have B3 := B2.gr hg3
    clear hg3 B2 clt c0 c1 c2 c3 c4 c5 c6 c7
    obtain ⟨c0, c1, c2, c3, c4, c5, c6, c7, clt⟩ := B3.c8
    go_wp2
    go_ret
    exact ⟨rfl, G3⟩
   rw [decide_eq_true (by omega : s = 0)] at HM
   obtain rfl : R = 0 := HM.out
   go_enter Tryz.func13, Tryz.ntmps13
   go_wp2_with fail
   refine (HI.out _ ?_).mono ?_
   ·exact (Gr.refl _).alloc
   rintro e4 w1 ⟨rfl, hg1⟩
   have G1 := (Gr.refl w).alloc.trans hg1
   have B1 := (Cs.new w _ _ _ rfl).gr hg1
   clear hg1
   obtain ⟨c0, c1, c2, c3, c4, c5, c6, c7, clt⟩ := B1.c8
   go_wp2_with fail
   refine (HD.out _ G1).mono ?_
   rintro e5 w2 ⟨rfl, hg2⟩
   have G2 : Gr w w2 := G1.trans hg2
   have B2 := B1.gr hg2
   clear hg2 B1 clt c0 c1 c2 c3 c4 c5 c6 c7
   obtain ⟨c0, c1, c2, c3, c4, c5, c6, c7, clt⟩ := B2.c8
   go_wp2_with fail
   refine (HP.out _ G2).mono ?_
   rintro e6 w3 ⟨rfl, hg3⟩
   have G3 : Gr w w3 := G2.trans hg3
   have B3 := B2.gr hg3
   clear hg3 B2 clt c0 c1 c2 c3 c4 c5 c6 c7
   obtain ⟨c0, c1, c2, c3, c4, c5, c6, c7, clt⟩ := B3.c8
   go_wp2
   go_ret
   exact ⟨rfl, G3⟩

theorem rmove2 (r n : Int) (L : List (Int × Int)) (s y : Int) (d : ByteArray) (S : List Stp) (a1 : Option Addr) (e1 : Nat) (a2 : Option Addr) (e2 : Nat) (w : World) (h : MvIn w (⟨2, r, n, L, s, y, d, S⟩ : Mv) a1 e1 a2 e2) :
  Calls Tryz.prog 13 #[.agg #[.int .i64 2, .int .i64 r, .int .i64 n, .slice a1 L.length e1, .int .i64 s, .int .i64 y, .string d, .slice a2 S.length e2]] w fun e w' => e = .returned (.int .i64 (Rc.mvE (⟨2, r, n, L, s, y, d, S⟩ : Mv))) /\ Gr w w' := by
 have HI : Hid (∀ w', Gr w w' -> Calls Tryz.prog 29 #[.agg #[.int .i64 r, .int .i64 n, .slice a1 L.length e1]] w' fun e w2 => e = .returned (.int .i64 (if Idn.mayB r n L = true then 0 else 30)) /\ Gr w' w2) := fun w' g => refCheck_any r n L a1 e1 w' (h.hops.gr g) h.nL
 have HD : Hid (∀ w', Gr w w' -> Calls Tryz.prog 31 #[.agg #[.string d, .slice a2 S.length e2]] w' fun e w2 => e = .returned (.bool (Rc.baB d S)) /\ Gr w' w2) := fun w' _ => bare_any d S a2 e2 w'
 have HP : Hid (∀ w', Gr w w' -> Calls Tryz.prog 25 #[.int .i64 2] w' fun e w2 => e = .returned (.bool false) /\ Gr w' w2) := fun w' _ => (steps_any 2 w').mono fun _ _ q => ⟨q.1, by rw [q.2]; exact Gr.refl _⟩
 have HM : Hid (Rc.mvE (⟨2, r, n, L, s, y, d, S⟩ : Mv) = if (Idn.mayB r n L && (!true || decide (0 < L.length)) && Rc.baB d S && Rc.inB y 1 9 && decide (s = 0)) = true then 0 else 140) := by
  show _ = _
  rfl
 generalize Rc.mvE (⟨2, r, n, L, s, y, d, S⟩ : Mv) = R at *
 generalize Idn.mayB r n L = bI at *
 generalize Rc.baB d S = bD at *
 clear h
 cases bI with
 | false =>
  rw [if_neg (by decide)] at HI
  obtain rfl : R = 140 := HM.out
  go_enter Tryz.func13, Tryz.ntmps13
  go_wp2_with fail
  refine (HI.out _ ?_).mono ?_
  ·exact (Gr.refl _).alloc
  rintro e4 w1 ⟨rfl, hg1⟩
  have G1 := (Gr.refl w).alloc.trans hg1
  have B1 := (Cs.new w _ _ _ rfl).gr hg1
  clear hg1
  obtain ⟨c0, c1, c2, c3, c4, c5, c6, c7, clt⟩ := B1.c8
  go_wp2
  go_ret
  exact ⟨rfl, G1⟩
 | true =>
  rw [if_pos rfl] at HI
  rw [show (!true || decide (0 < L.length)) = decide (0 < L.length) by simp] at HM
  cases bD with
  | false =>
   replace HM : Hid (R = 140) := by show _ = _; rw [HM.out]; cases decide (0 < L.length) <;> rfl
   obtain rfl : R = 140 := HM.out
   go_enter Tryz.func13, Tryz.ntmps13
   go_wp2_with fail
   refine (HI.out _ ?_).mono ?_
   ·exact (Gr.refl _).alloc
   rintro e4 w1 ⟨rfl, hg1⟩
   have G1 := (Gr.refl w).alloc.trans hg1
   have B1 := (Cs.new w _ _ _ rfl).gr hg1
   clear hg1
   obtain ⟨c0, c1, c2, c3, c4, c5, c6, c7, clt⟩ := B1.c8
   go_wp2_with fail
   refine (HD.out _ G1).mono ?_
   rintro e5 w2 ⟨rfl, hg2⟩
   have G2 : Gr w w2 := G1.trans hg2
   have B2 := B1.gr hg2
   clear hg2 B1 clt c0 c1 c2 c3 c4 c5 c6 c7
   obtain ⟨c0, c1, c2, c3, c4, c5, c6, c7, clt⟩ := B2.c8
   go_wp2
   go_ret
   exact ⟨rfl, G2⟩
  | true =>
   by_cases hl : L.length = 0
   ·rw [decide_eq_false (by omega)] at HM
    have hl' : ((L.length : Int) == 0) = true := by rw [hl]; rfl
    clear hl
    obtain rfl : R = 140 := HM.out
    go_enter Tryz.func13, Tryz.ntmps13
    go_wp2_with fail
    refine (HI.out _ ?_).mono ?_
    ·exact (Gr.refl _).alloc
    rintro e4 w1 ⟨rfl, hg1⟩
    have G1 := (Gr.refl w).alloc.trans hg1
    have B1 := (Cs.new w _ _ _ rfl).gr hg1
    clear hg1
    obtain ⟨c0, c1, c2, c3, c4, c5, c6, c7, clt⟩ := B1.c8
    go_wp2_with fail
    refine (HD.out _ G1).mono ?_
    rintro e5 w2 ⟨rfl, hg2⟩
    have G2 : Gr w w2 := G1.trans hg2
    have B2 := B1.gr hg2
    clear hg2 B1 clt c0 c1 c2 c3 c4 c5 c6 c7
    obtain ⟨c0, c1, c2, c3, c4, c5, c6, c7, clt⟩ := B2.c8
    go_wp2
    go_ret
    exact ⟨rfl, G2⟩
   have hl' : ((L.length : Int) == 0) = false := by simpa using hl
   rw [decide_eq_true (by omega)] at HM
   clear hl
   unfold Rc.inB at HM
   by_cases y1 : y < 1
   ·rw [decide_eq_false (by omega : ¬ 1 <= y)] at HM
    obtain rfl : R = 140 := HM.out
    go_enter Tryz.func13, Tryz.ntmps13
    go_wp2_with fail
    refine (HI.out _ ?_).mono ?_
    ·exact (Gr.refl _).alloc
    rintro e4 w1 ⟨rfl, hg1⟩
    have G1 := (Gr.refl w).alloc.trans hg1
    have B1 := (Cs.new w _ _ _ rfl).gr hg1
    clear hg1
    obtain ⟨c0, c1, c2, c3, c4, c5, c6, c7, clt⟩ := B1.c8
    go_wp2_with fail
    refine (HD.out _ G1).mono ?_
    rintro e5 w2 ⟨rfl, hg2⟩
    have G2 : Gr w w2 := G1.trans hg2
    have B2 := B1.gr hg2
    clear hg2 B1 clt c0 c1 c2 c3 c4 c5 c6 c7
    obtain ⟨c0, c1, c2, c3, c4, c5, c6, c7, clt⟩ := B2.c8
    go_wp2
    go_ret
    exact ⟨rfl, G2⟩
   rw [decide_eq_true (by omega : 1 <= y)] at HM
   by_cases y9 : 9 < y
   ·rw [decide_eq_false (by omega : ¬ y <= 9)] at HM
    obtain rfl : R = 140 := HM.out
    go_enter Tryz.func13, Tryz.ntmps13
    go_wp2_with fail
    refine (HI.out _ ?_).mono ?_
    ·exact (Gr.refl _).alloc
    rintro e4 w1 ⟨rfl, hg1⟩
    have G1 := (Gr.refl w).alloc.trans hg1
    have B1 := (Cs.new w _ _ _ rfl).gr hg1
    clear hg1
    obtain ⟨c0, c1, c2, c3, c4, c5, c6, c7, clt⟩ := B1.c8
    go_wp2_with fail
    refine (HD.out _ G1).mono ?_
    rintro e5 w2 ⟨rfl, hg2⟩
    have G2 : Gr w w2 := G1.trans hg2
    have B2 := B1.gr hg2
    clear hg2 B1 clt c0 c1 c2 c3 c4 c5 c6 c7
    obtain ⟨c0, c1, c2, c3, c4, c5, c6, c7, clt⟩ := B2.c8
    go_wp2
    go_ret
    exact ⟨rfl, G2⟩
   rw [decide_eq_true (by omega : y <= 9)] at HM
   by_cases s0 : s < 0
   ·rw [decide_eq_false (by omega : ¬ s = 0)] at HM
    obtain rfl : R = 140 := HM.out
    go_enter Tryz.func13, Tryz.ntmps13
    go_wp2_with fail
    refine (HI.out _ ?_).mono ?_
    ·exact (Gr.refl _).alloc
    rintro e4 w1 ⟨rfl, hg1⟩
    have G1 := (Gr.refl w).alloc.trans hg1
    have B1 := (Cs.new w _ _ _ rfl).gr hg1
    clear hg1
    obtain ⟨c0, c1, c2, c3, c4, c5, c6, c7, clt⟩ := B1.c8
    go_wp2_with fail
    refine (HD.out _ G1).mono ?_
    rintro e5 w2 ⟨rfl, hg2⟩
    have G2 : Gr w w2 := G1.trans hg2
    have B2 := B1.gr hg2
    clear hg2 B1 clt c0 c1 c2 c3 c4 c5 c6 c7
    obtain ⟨c0, c1, c2, c3, c4, c5, c6, c7, clt⟩ := B2.c8
    go_wp2_with fail
    refine (HP.out _ G2).mono ?_
    rintro e6 w3 ⟨rfl, hg3⟩
    have G3 : Gr w w3 := G2.trans hg3
    have B3 := B2.gr hg3
    clear hg3 B2 clt c0 c1 c2 c3 c4 c5 c6 c7
    obtain ⟨c0, c1, c2, c3, c4, c5, c6, c7, clt⟩ := B3.c8
    go_wp2
    go_ret
    exact ⟨rfl, G3⟩
   by_cases s7 : 0 < s
   ·rw [decide_eq_false (by omega : ¬ s = 0)] at HM
    obtain rfl : R = 140 := HM.out
    go_enter Tryz.func13, Tryz.ntmps13
    go_wp2_with fail
    refine (HI.out _ ?_).mono ?_
    ·exact (Gr.refl _).alloc
    rintro e4 w1 ⟨rfl, hg1⟩
    have G1 := (Gr.refl w).alloc.trans hg1
    have B1 := (Cs.new w _ _ _ rfl).gr hg1
    clear hg1
    obtain ⟨c0, c1, c2, c3, c4, c5, c6, c7, clt⟩ := B1.c8
    go_wp2_with fail
    refine (HD.out _ G1).mono ?_
    rintro e5 w2 ⟨rfl, hg2⟩
    have G2 : Gr w w2 := G1.trans hg2
    have B2 := B1.gr hg2
    clear hg2 B1 clt c0 c1 c2 c3 c4 c5 c6 c7
    obtain ⟨c0, c1, c2, c3, c4, c5, c6, c7, clt⟩ := B2.c8
    go_wp2_with fail
    refine (HP.out _ G2).mono ?_
    rintro e6 w3 ⟨rfl, hg3⟩
    have G3 : Gr w w3 := G2.trans hg3
    have B3 := B2.gr hg3
    clear hg3 B2 clt c0 c1 c2 c3 c4 c5 c6 c7
    obtain ⟨c0, c1, c2, c3, c4, c5, c6, c7, clt⟩ := B3.c8
    go_wp2
    go_ret
    exact ⟨rfl, G3⟩
   rw [decide_eq_true (by omega : s = 0)] at HM
   obtain rfl : R = 0 := HM.out
   go_enter Tryz.func13, Tryz.ntmps13
   go_wp2_with fail
   refine (HI.out _ ?_).mono ?_
   ·exact (Gr.refl _).alloc
   rintro e4 w1 ⟨rfl, hg1⟩
   have G1 := (Gr.refl w).alloc.trans hg1
   have B1 := (Cs.new w _ _ _ rfl).gr hg1
   clear hg1
   obtain ⟨c0, c1, c2, c3, c4, c5, c6, c7, clt⟩ := B1.c8
   go_wp2_with fail
   refine (HD.out _ G1).mono ?_
   rintro e5 w2 ⟨rfl, hg2⟩
   have G2 : Gr w w2 := G1.trans hg2
   have B2 := B1.gr hg2
   clear hg2 B1 clt c0 c1 c2 c3 c4 c5 c6 c7
   obtain ⟨c0, c1, c2, c3, c4, c5, c6, c7, clt⟩ := B2.c8
   go_wp2_with fail
   refine (HP.out _ G2).mono ?_
   rintro e6 w3 ⟨rfl, hg3⟩
   have G3 : Gr w w3 := G2.trans hg3
   have B3 := B2.gr hg3
   clear hg3 B2 clt c0 c1 c2 c3 c4 c5 c6 c7
   obtain ⟨c0, c1, c2, c3, c4, c5, c6, c7, clt⟩ := B3.c8
   go_wp2
   go_ret
   exact ⟨rfl, G3⟩

end Go.Proofs.YthaadiclopoamaaGreatDoor
