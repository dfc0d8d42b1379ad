/- Parts of these proofs, laid together. -/
import Derived.Test.YthaadiclopoamaaGreatDoorGBE
import Derived.Test.YthaadiclopoamaaGreatDoorGBB
import Derived.Test.YthaadiclopoamaaGreatDoorGG
/- the document's record: Check. -/
set_option maxRecDepth 100000
set_option maxHeartbeats 8000000
namespace Go.Proofs.YthaadiclopoamaaGreatDoor
open Go.RowKit
open Df (Stp)

theorem rchk1 (mk r n : Int) (L : List (Int × Int)) (s y : Int) (md : ByteArray) (T : List Stp) (a : ByteArray) (v : Int) (d : ByteArray) (S : List Stp) (t : ByteArray) (a1 : Option Addr) (e1 : Nat) (a2 : Option Addr) (e2 : Nat) (a3 : Option Addr) (e3 : Nat) (w : World) (h : RcIn w (⟨1, ⟨mk, r, n, L, s, y, md, T⟩, a, v, d, S, t⟩ : Rc) a1 e1 a2 e2 a3 e3) :
  Calls Tryz.prog 15 #[.agg #[.int .i64 1, .int .i64 mk, .int .i64 r, .int .i64 n, .slice a1 L.length e1, .int .i64 s, .int .i64 y, .string md, .slice a2 T.length e2, .string a, .int .i64 v, .string d, .slice a3 S.length e3, .string t]] w fun e w' => e = .returned (.int .i64 (Rc.rcE (⟨1, ⟨mk, r, n, L, s, y, md, T⟩, a, v, d, S, t⟩ : Rc))) /\ Gr w w' := by
 have hm : MvIn w (⟨mk, r, n, L, s, y, md, T⟩ : Mv) a1 e1 a2 e2 := h.mv
 have HX : Hid (Rc.rcE (⟨1, ⟨mk, r, n, L, s, y, md, T⟩, a, v, d, S, t⟩ : Rc) = if (Rc.mvB (⟨mk, r, n, L, s, y, md, T⟩ : Mv) && decide (a = ⟨#[]⟩) && decide (v = 0) && Rc.baB d S && decide (t = ⟨#[]⟩)) = true then 0 else 140) := rfl
 have H1 : Hid (∀ w', Gr w w' -> Calls Tryz.prog 13 #[.agg #[.int .i64 mk, .int .i64 r, .int .i64 n, .slice a1 L.length e1, .int .i64 s, .int .i64 y, .string md, .slice a2 T.length e2]] w' fun e w2 => e = .returned (.int .i64 (if Rc.mvB (⟨mk, r, n, L, s, y, md, T⟩ : Mv) = true then 0 else 140)) /\ Gr w' w2) := fun w' g => rmove_any mk r n L s y md T a1 e1 a2 e2 w' (hm.gr g)
 have H4 : Hid (∀ w', Gr w w' -> Calls Tryz.prog 31 #[.agg #[.string d, .slice a3 S.length e3]] w' fun e w2 => e = .returned (.bool (Rc.baB d S)) /\ Gr w' w2) := fun w' _ => bare_any d S a3 e3 w'
 generalize Rc.rcE (⟨1, ⟨mk, r, n, L, s, y, md, T⟩, a, v, d, S, t⟩ : Rc) = R at *
 clear h hm
 generalize Rc.mvB (⟨mk, r, n, L, s, y, md, T⟩ : Mv) = b1 at *
 generalize Rc.baB d S = b4 at *
 have ta : (a.toList == []) = decide (a = ⟨#[]⟩) := text_eq a []
 have tb : (a.toList != []) = !decide (a = ⟨#[]⟩) := text_ne a []
 have va : (v == 0) = decide (v = 0) := by by_cases e : v = 0 <;> simp [e]
 have vb : (v != 0) = !decide (v = 0) := by by_cases e : v = 0 <;> simp [e]
 generalize decide (a = ⟨#[]⟩) = b2 at *
 generalize decide (v = 0) = b3 at *
 have tc : (t.toList == []) = decide (t = ⟨#[]⟩) := text_eq t []
 have td : (t.toList != []) = !decide (t = ⟨#[]⟩) := text_ne t []
 have te : 29000 < (t.size : Int) -> decide (t = ⟨#[]⟩) = false := by
  intro e
  refine decide_eq_false fun q => ?_
  rw [q] at e
  exact absurd e (by decide)
 generalize decide (t = ⟨#[]⟩) = b5 at *
 cases b1 with
 | false =>
  rw [if_neg (by decide)] at H1
  replace HX : Hid (R = 140) := by show _ = _; rw [HX.out]; rfl
  obtain rfl : R = 140 := HX.out
  go_enter Tryz.func15, Tryz.ntmps15
  go_wp2_with fail
  refine (H1.out _ ?_).mono ?_
  ·exact (Gr.refl _).alloc
  rintro e4 w1 ⟨rfl, hg1⟩
  have G1 := (Gr.refl w).alloc.trans hg1
  have B1 := (Cs.new w _ _ _ rfl).gr hg1
  clear hg1
  obtain ⟨c0, c1, c2, c3, c4, c5, c6, c7, c8, c9, c10, c11, c12, c13, clt⟩ := B1.c14
  go_wp2
  go_ret
  exact ⟨rfl, G1⟩
 | true =>
  rw [if_pos rfl] at H1
  cases b2 with
  | false =>
   replace HX : Hid (R = 140) := by show _ = _; rw [HX.out]; rfl
   obtain rfl : R = 140 := HX.out
   go_enter Tryz.func15, Tryz.ntmps15
   go_wp2_with fail
   refine (H1.out _ ?_).mono ?_
   ·exact (Gr.refl _).alloc
   rintro e4 w1 ⟨rfl, hg1⟩
   have G1 := (Gr.refl w).alloc.trans hg1
   have B1 := (Cs.new w _ _ _ rfl).gr hg1
   clear hg1
   obtain ⟨c0, c1, c2, c3, c4, c5, c6, c7, c8, c9, c10, c11, c12, c13, clt⟩ := B1.c14
   go_wp2
   go_ret
   exact ⟨rfl, G1⟩
  | true =>
   cases b3 with
   | false =>
    replace HX : Hid (R = 140) := by show _ = _; rw [HX.out]; rfl
    obtain rfl : R = 140 := HX.out
    go_enter Tryz.func15, Tryz.ntmps15
    go_wp2_with fail
    refine (H1.out _ ?_).mono ?_
    ·exact (Gr.refl _).alloc
    rintro e4 w1 ⟨rfl, hg1⟩
    have G1 := (Gr.refl w).alloc.trans hg1
    have B1 := (Cs.new w _ _ _ rfl).gr hg1
    clear hg1
    obtain ⟨c0, c1, c2, c3, c4, c5, c6, c7, c8, c9, c10, c11, c12, c13, clt⟩ := B1.c14
    go_wp2
    go_ret
    exact ⟨rfl, G1⟩
   | true =>
    cases b4 with
    | false =>
     replace HX : Hid (R = 140) := by show _ = _; rw [HX.out]; rfl
     obtain rfl : R = 140 := HX.out
     go_enter Tryz.func15, Tryz.ntmps15
     go_wp2_with fail
     refine (H1.out _ ?_).mono ?_
     ·exact (Gr.refl _).alloc
     rintro e4 w1 ⟨rfl, hg1⟩
     have G1 := (Gr.refl w).alloc.trans hg1
     have B1 := (Cs.new w _ _ _ rfl).gr hg1
     clear hg1
     obtain ⟨c0, c1, c2, c3, c4, c5, c6, c7, c8, c9, c10, c11, c12, c13, clt⟩ := B1.c14
     go_wp2_with fail
     refine (H4.out _ G1).mono ?_
     rintro e5 w2 ⟨rfl, hg2⟩
     have G2 : Gr w w2 := G1.trans hg2
     have B2 := B1.gr hg2
     clear hg2 B1 clt c0 c1 c2 c3 c4 c5 c6 c7 c8 c9 c10 c11 c12 c13
     obtain ⟨c0, c1, c2, c3, c4, c5, c6, c7, c8, c9, c10, c11, c12, c13, clt⟩ := B2.c14
     go_wp2
     go_ret
     exact ⟨rfl, G2⟩
    | true =>
     by_cases hl : 29000 < (t.size : Int)
     ·obtain rfl := te hl
      obtain rfl : R = 140 := HX.out
      go_enter Tryz.func15, Tryz.ntmps15
      go_wp2_with fail
      refine (H1.out _ ?_).mono ?_
      ·exact (Gr.refl _).alloc
      rintro e4 w1 ⟨rfl, hg1⟩
      have G1 := (Gr.refl w).alloc.trans hg1
      have B1 := (Cs.new w _ _ _ rfl).gr hg1
      clear hg1
      obtain ⟨c0, c1, c2, c3, c4, c5, c6, c7, c8, c9, c10, c11, c12, c13, clt⟩ := B1.c14
      go_wp2_with fail
      refine (H4.out _ G1).mono ?_
      rintro e5 w2 ⟨rfl, hg2⟩
      have G2 : Gr w w2 := G1.trans hg2
      have B2 := B1.gr hg2
      clear hg2 B1 clt c0 c1 c2 c3 c4 c5 c6 c7 c8 c9 c10 c11 c12 c13
      obtain ⟨c0, c1, c2, c3, c4, c5, c6, c7, c8, c9, c10, c11, c12, c13, clt⟩ := B2.c14
      go_wp2
      go_ret
      exact ⟨rfl, G2⟩
     ·clear te
      cases b5 with
      | false =>
       obtain rfl : R = 140 := HX.out
       go_enter Tryz.func15, Tryz.ntmps15
       go_wp2_with fail
       refine (H1.out _ ?_).mono ?_
       ·exact (Gr.refl _).alloc
       rintro e4 w1 ⟨rfl, hg1⟩
       have G1 := (Gr.refl w).alloc.trans hg1
       have B1 := (Cs.new w _ _ _ rfl).gr hg1
       clear hg1
       obtain ⟨c0, c1, c2, c3, c4, c5, c6, c7, c8, c9, c10, c11, c12, c13, clt⟩ := B1.c14
       go_wp2_with fail
       refine (H4.out _ G1).mono ?_
       rintro e5 w2 ⟨rfl, hg2⟩
       have G2 : Gr w w2 := G1.trans hg2
       have B2 := B1.gr hg2
       clear hg2 B1 clt c0 c1 c2 c3 c4 c5 c6 c7 c8 c9 c10 c11 c12 c13
       obtain ⟨c0, c1, c2, c3, c4, c5, c6, c7, c8, c9, c10, c11, c12, c13, clt⟩ := B2.c14
       go_wp2
       go_ret
       exact ⟨rfl, G2⟩
      | true =>
       obtain rfl : R = 0 := HX.out
       go_enter Tryz.func15, Tryz.ntmps15
       go_wp2_with fail
       refine (H1.out _ ?_).mono ?_
       ·exact (Gr.refl _).alloc
       rintro e4 w1 ⟨rfl, hg1⟩
       have G1 := (Gr.refl w).alloc.trans hg1
       have B1 := (Cs.new w _ _ _ rfl).gr hg1
       clear hg1
       obtain ⟨c0, c1, c2, c3, c4, c5, c6, c7, c8, c9, c10, c11, c12, c13, clt⟩ := B1.c14
       go_wp2_with fail
       refine (H4.out _ G1).mono ?_
       rintro e5 w2 ⟨rfl, hg2⟩
       have G2 : Gr w w2 := G1.trans hg2
       have B2 := B1.gr hg2
       clear hg2 B1 clt c0 c1 c2 c3 c4 c5 c6 c7 c8 c9 c10 c11 c12 c13
       obtain ⟨c0, c1, c2, c3, c4, c5, c6, c7, c8, c9, c10, c11, c12, c13, clt⟩ := B2.c14
       go_wp2
       go_ret
       exact ⟨rfl, G2⟩

theorem rchk2 (mk r n : Int) (L : List (Int × Int)) (s y : Int) (md : ByteArray) (T : List Stp) (a : ByteArray) (v : Int) (d : ByteArray) (S : List Stp) (t : ByteArray) (a1 : Option Addr) (e1 : Nat) (a2 : Option Addr) (e2 : Nat) (a3 : Option Addr) (e3 : Nat) (w : World) (h : RcIn w (⟨2, ⟨mk, r, n, L, s, y, md, T⟩, a, v, d, S, t⟩ : Rc) a1 e1 a2 e2 a3 e3) :
  Calls Tryz.prog 15 #[.agg #[.int .i64 2, .int .i64 mk, .int .i64 r, .int .i64 n, .slice a1 L.length e1, .int .i64 s, .int .i64 y, .string md, .slice a2 T.length e2, .string a, .int .i64 v, .string d, .slice a3 S.length e3, .string t]] w fun e w' => e = .returned (.int .i64 (Rc.rcE (⟨2, ⟨mk, r, n, L, s, y, md, T⟩, a, v, d, S, t⟩ : Rc))) /\ Gr w w' := by
 have hm : MvIn w (⟨mk, r, n, L, s, y, md, T⟩ : Mv) a1 e1 a2 e2 := h.mv
 have HX : Hid (Rc.rcE (⟨2, ⟨mk, r, n, L, s, y, md, T⟩, a, v, d, S, t⟩ : Rc) = if (Rc.emB (⟨mk, r, n, L, s, y, md, T⟩ : Mv) && Act.nameB a && Rc.fiB v && Rc.baB d S && decide (t = ⟨#[]⟩)) = true then 0 else 140) := rfl
 have H1 : Hid (∀ w', Gr w w' -> Calls Tryz.prog 37 #[.agg #[.int .i64 mk, .int .i64 r, .int .i64 n, .slice a1 L.length e1, .int .i64 s, .int .i64 y, .string md, .slice a2 T.length e2]] w' fun e w2 => e = .returned (.bool (Rc.emB (⟨mk, r, n, L, s, y, md, T⟩ : Mv))) /\ Gr w' w2) := fun w' _ => none_any mk r n L s y md T a1 e1 a2 e2 w'
 have H2 : Hid (∀ w', Gr w w' -> Calls Tryz.prog 38 #[.string a] w' fun e w2 => e = .returned (.bool (Act.nameB a)) /\ Gr w' w2) := fun w' _ => (refName_any a w' h.na).mono fun _ _ h => ⟨h.1, by rw [h.2]; exact Gr.refl _⟩
 have H3 : Hid (∀ w', Gr w w' -> Calls Tryz.prog 39 #[.int .i64 v] w' fun e w2 => e = .returned (.bool (Rc.fiB v)) /\ Gr w' w2) := fun w' _ => (refFits_any v w').mono fun _ _ h => ⟨h.1, by rw [h.2]; exact Gr.refl _⟩
 have H4 : Hid (∀ w', Gr w w' -> Calls Tryz.prog 31 #[.agg #[.string d, .slice a3 S.length e3]] w' fun e w2 => e = .returned (.bool (Rc.baB d S)) /\ Gr w' w2) := fun w' _ => bare_any d S a3 e3 w'
 generalize Rc.rcE (⟨2, ⟨mk, r, n, L, s, y, md, T⟩, a, v, d, S, t⟩ : Rc) = R at *
 clear h hm
 generalize Rc.emB (⟨mk, r, n, L, s, y, md, T⟩ : Mv) = b1 at *
 generalize Rc.baB d S = b4 at *
 generalize Act.nameB a = b2 at *
 generalize Rc.fiB v = b3 at *
 have tc : (t.toList == []) = decide (t = ⟨#[]⟩) := text_eq t []
 have td : (t.toList != []) = !decide (t = ⟨#[]⟩) := text_ne t []
 have te : 29000 < (t.size : Int) -> decide (t = ⟨#[]⟩) = false := by
  intro e
  refine decide_eq_false fun q => ?_
  rw [q] at e
  exact absurd e (by decide)
 generalize decide (t = ⟨#[]⟩) = b5 at *
 cases b1 with
 | false =>
  replace HX : Hid (R = 140) := by show _ = _; rw [HX.out]; rfl
  obtain rfl : R = 140 := HX.out
  go_enter Tryz.func15, Tryz.ntmps15
  go_wp2_with fail
  refine (H1.out _ ?_).mono ?_
  ·exact (Gr.refl _).alloc
  rintro e4 w1 ⟨rfl, hg1⟩
  have G1 := (Gr.refl w).alloc.trans hg1
  have B1 := (Cs.new w _ _ _ rfl).gr hg1
  clear hg1
  obtain ⟨c0, c1, c2, c3, c4, c5, c6, c7, c8, c9, c10, c11, c12, c13, clt⟩ := B1.c14
  go_wp2
  go_ret
  exact ⟨rfl, G1⟩
 | true =>
  cases b2 with
  | false =>
   replace HX : Hid (R = 140) := by show _ = _; rw [HX.out]; rfl
   obtain rfl : R = 140 := HX.out
   go_enter Tryz.func15, Tryz.ntmps15
   go_wp2_with fail
   refine (H1.out _ ?_).mono ?_
   ·exact (Gr.refl _).alloc
   rintro e4 w1 ⟨rfl, hg1⟩
   have G1 := (Gr.refl w).alloc.trans hg1
   have B1 := (Cs.new w _ _ _ rfl).gr hg1
   clear hg1
   obtain ⟨c0, c1, c2, c3, c4, c5, c6, c7, c8, c9, c10, c11, c12, c13, clt⟩ := B1.c14
   go_wp2_with fail
   refine (H2.out _ G1).mono ?_
   rintro e5 w2 ⟨rfl, hg2⟩
   have G2 : Gr w w2 := G1.trans hg2
   have B2 := B1.gr hg2
   clear hg2 B1 clt c0 c1 c2 c3 c4 c5 c6 c7 c8 c9 c10 c11 c12 c13
   obtain ⟨c0, c1, c2, c3, c4, c5, c6, c7, c8, c9, c10, c11, c12, c13, clt⟩ := B2.c14
   go_wp2
   go_ret
   exact ⟨rfl, G2⟩
  | true =>
   cases b3 with
   | false =>
    replace HX : Hid (R = 140) := by show _ = _; rw [HX.out]; rfl
    obtain rfl : R = 140 := HX.out
    go_enter Tryz.func15, Tryz.ntmps15
    go_wp2_with fail
    refine (H1.out _ ?_).mono ?_
    ·exact (Gr.refl _).alloc
    rintro e4 w1 ⟨rfl, hg1⟩
    have G1 := (Gr.refl w).alloc.trans hg1
    have B1 := (Cs.new w _ _ _ rfl).gr hg1
    clear hg1
    obtain ⟨c0, c1, c2, c3, c4, c5, c6, c7, c8, c9, c10, c11, c12, c13, clt⟩ := B1.c14
    go_wp2_with fail
    refine (H2.out _ G1).mono ?_
    rintro e5 w2 ⟨rfl, hg2⟩
    have G2 : Gr w w2 := G1.trans hg2
    have B2 := B1.gr hg2
    clear hg2 B1 clt c0 c1 c2 c3 c4 c5 c6 c7 c8 c9 c10 c11 c12 c13
    obtain ⟨c0, c1, c2, c3, c4, c5, c6, c7, c8, c9, c10, c11, c12, c13, clt⟩ := B2.c14
    go_wp2_with fail
    refine (H3.out _ G2).mono ?_
    rintro e6 w3 ⟨rfl, hg3⟩
    have G3 : Gr w w3 := G2.trans hg3
    have B3 := B2.gr hg3
    clear hg3 B2 clt c0 c1 c2 c3 c4 c5 c6 c7 c8 c9 c10 c11 c12 c13
    obtain ⟨c0, c1, c2, c3, c4, c5, c6, c7, c8, c9, c10, c11, c12, c13, clt⟩ := B3.c14
    go_wp2
    go_ret
    exact ⟨rfl, G3⟩
   | true =>
    cases b4 with
    | false =>
     replace HX : Hid (R = 140) := by show _ = _; rw [HX.out]; rfl
     obtain rfl : R = 140 := HX.out
     go_enter Tryz.func15, Tryz.ntmps15
     go_wp2_with fail
     refine (H1.out _ ?_).mono ?_
     ·exact (Gr.refl _).alloc
     rintro e4 w1 ⟨rfl, hg1⟩
     have G1 := (Gr.refl w).alloc.trans hg1
     have B1 := (Cs.new w _ _ _ rfl).gr hg1
     clear hg1
     obtain ⟨c0, c1, c2, c3, c4, c5, c6, c7, c8, c9, c10, c11, c12, c13, clt⟩ := B1.c14
     go_wp2_with fail
     refine (H2.out _ G1).mono ?_
     rintro e5 w2 ⟨rfl, hg2⟩
     have G2 : Gr w w2 := G1.trans hg2
     have B2 := B1.gr hg2
     clear hg2 B1 clt c0 c1 c2 c3 c4 c5 c6 c7 c8 c9 c10 c11 c12 c13
     obtain ⟨c0, c1, c2, c3, c4, c5, c6, c7, c8, c9, c10, c11, c12, c13, clt⟩ := B2.c14
     go_wp2_with fail
     refine (H3.out _ G2).mono ?_
     rintro e6 w3 ⟨rfl, hg3⟩
     have G3 : Gr w w3 := G2.trans hg3
     have B3 := B2.gr hg3
     clear hg3 B2 clt c0 c1 c2 c3 c4 c5 c6 c7 c8 c9 c10 c11 c12 c13
     obtain ⟨c0, c1, c2, c3, c4, c5, c6, c7, c8, c9, c10, c11, c12, c13, clt⟩ := B3.c14
     go_wp2_with fail
     refine (H4.out _ G3).mono ?_
     rintro e7 w4 ⟨rfl, hg4⟩
     have G4 : Gr w w4 := G3.trans hg4
     have B4 := B3.gr hg4
     clear hg4 B3 clt c0 c1 c2 c3 c4 c5 c6 c7 c8 c9 c10 c11 c12 c13
     obtain ⟨c0, c1, c2, c3, c4, c5, c6, c7, c8, c9, c10, c11, c12, c13, clt⟩ := B4.c14
     go_wp2
     go_ret
     exact ⟨rfl, G4⟩
    | true =>
     by_cases hl : 29000 < (t.size : Int)
     ·obtain rfl := te hl
      obtain rfl : R = 140 := HX.out
      go_enter Tryz.func15, Tryz.ntmps15
      go_wp2_with fail
      refine (H1.out _ ?_).mono ?_
      ·exact (Gr.refl _).alloc
      rintro e4 w1 ⟨rfl, hg1⟩
      have G1 := (Gr.refl w).alloc.trans hg1
      have B1 := (Cs.new w _ _ _ rfl).gr hg1
      clear hg1
      obtain ⟨c0, c1, c2, c3, c4, c5, c6, c7, c8, c9, c10, c11, c12, c13, clt⟩ := B1.c14
      go_wp2_with fail
      refine (H2.out _ G1).mono ?_
      rintro e5 w2 ⟨rfl, hg2⟩
      have G2 : Gr w w2 := G1.trans hg2
      have B2 := B1.gr hg2
      clear hg2 B1 clt c0 c1 c2 c3 c4 c5 c6 c7 c8 c9 c10 c11 c12 c13
      obtain ⟨c0, c1, c2, c3, c4, c5, c6, c7, c8, c9, c10, c11, c12, c13, clt⟩ := B2.c14
      go_wp2_with fail
      refine (H3.out _ G2).mono ?_
      rintro e6 w3 ⟨rfl, hg3⟩
      have G3 : Gr w w3 := G2.trans hg3
      have B3 := B2.gr hg3
      clear hg3 B2 clt c0 c1 c2 c3 c4 c5 c6 c7 c8 c9 c10 c11 c12 c13
      obtain ⟨c0, c1, c2, c3, c4, c5, c6, c7, c8, c9, c10, c11, c12, c13, clt⟩ := B3.c14
      go_wp2_with fail
      refine (H4.out _ G3).mono ?_
      rintro e7 w4 ⟨rfl, hg4⟩
      have G4 : Gr w w4 := G3.trans hg4
      have B4 := B3.gr hg4
      clear hg4 B3 clt c0 c1 c2 c3 c4 c5 c6 c7 c8 c9 c10 c11 c12 c13
      obtain ⟨c0, c1, c2, c3, c4, c5, c6, c7, c8, c9, c10, c11, c12, c13, clt⟩ := B4.c14
      go_wp2
      go_ret
      exact ⟨rfl, G4⟩
     ·clear te
      cases b5 with
      | false =>
       obtain rfl : R = 140 := HX.out
       go_enter Tryz.func15, Tryz.ntmps15
       go_wp2_with fail
       refine (H1.out _ ?_).mono ?_
       ·exact (Gr.refl _).alloc
       rintro e4 w1 ⟨rfl, hg1⟩
       have G1 := (Gr.refl w).alloc.trans hg1
       have B1 := (Cs.new w _ _ _ rfl).gr hg1
       clear hg1
       obtain ⟨c0, c1, c2, c3, c4, c5, c6, c7, c8, c9, c10, c11, c12, c13, clt⟩ := B1.c14
       go_wp2_with fail
       refine (H2.out _ G1).mono ?_
       rintro e5 w2 ⟨rfl, hg2⟩
       have G2 : Gr w w2 := G1.trans hg2
       have B2 := B1.gr hg2
       clear hg2 B1 clt c0 c1 c2 c3 c4 c5 c6 c7 c8 c9 c10 c11 c12 c13
       obtain ⟨c0, c1, c2, c3, c4, c5, c6, c7, c8, c9, c10, c11, c12, c13, clt⟩ := B2.c14
       go_wp2_with fail
       refine (H3.out _ G2).mono ?_
       rintro e6 w3 ⟨rfl, hg3⟩
       have G3 : Gr w w3 := G2.trans hg3
       have B3 := B2.gr hg3
       clear hg3 B2 clt c0 c1 c2 c3 c4 c5 c6 c7 c8 c9 c10 c11 c12 c13
       obtain ⟨c0, c1, c2, c3, c4, c5, c6, c7, c8, c9, c10, c11, c12, c13, clt⟩ := B3.c14
       go_wp2_with fail
       refine (H4.out _ G3).mono ?_
       rintro e7 w4 ⟨rfl, hg4⟩
       have G4 : Gr w w4 := G3.trans hg4
       have B4 := B3.gr hg4
       clear hg4 B3 clt c0 c1 c2 c3 c4 c5 c6 c7 c8 c9 c10 c11 c12 c13
       obtain ⟨c0, c1, c2, c3, c4, c5, c6, c7, c8, c9, c10, c11, c12, c13, clt⟩ := B4.c14
       go_wp2
       go_ret
       exact ⟨rfl, G4⟩
      | true =>
       obtain rfl : R = 0 := HX.out
       go_enter Tryz.func15, Tryz.ntmps15
       go_wp2_with fail
       refine (H1.out _ ?_).mono ?_
       ·exact (Gr.refl _).alloc
       rintro e4 w1 ⟨rfl, hg1⟩
       have G1 := (Gr.refl w).alloc.trans hg1
       have B1 := (Cs.new w _ _ _ rfl).gr hg1
       clear hg1
       obtain ⟨c0, c1, c2, c3, c4, c5, c6, c7, c8, c9, c10, c11, c12, c13, clt⟩ := B1.c14
       go_wp2_with fail
       refine (H2.out _ G1).mono ?_
       rintro e5 w2 ⟨rfl, hg2⟩
       have G2 : Gr w w2 := G1.trans hg2
       have B2 := B1.gr hg2
       clear hg2 B1 clt c0 c1 c2 c3 c4 c5 c6 c7 c8 c9 c10 c11 c12 c13
       obtain ⟨c0, c1, c2, c3, c4, c5, c6, c7, c8, c9, c10, c11, c12, c13, clt⟩ := B2.c14
       go_wp2_with fail
       refine (H3.out _ G2).mono ?_
       rintro e6 w3 ⟨rfl, hg3⟩
       have G3 : Gr w w3 := G2.trans hg3
       have B3 := B2.gr hg3
       clear hg3 B2 clt c0 c1 c2 c3 c4 c5 c6 c7 c8 c9 c10 c11 c12 c13
       obtain ⟨c0, c1, c2, c3, c4, c5, c6, c7, c8, c9, c10, c11, c12, c13, clt⟩ := B3.c14
       go_wp2_with fail
       refine (H4.out _ G3).mono ?_
       rintro e7 w4 ⟨rfl, hg4⟩
       have G4 : Gr w w4 := G3.trans hg4
       have B4 := B3.gr hg4
       clear hg4 B3 clt c0 c1 c2 c3 c4 c5 c6 c7 c8 c9 c10 c11 c12 c13
       obtain ⟨c0, c1, c2, c3, c4, c5, c6, c7, c8, c9, c10, c11, c12, c13, clt⟩ := B4.c14
       go_wp2
       go_ret
       exact ⟨rfl, G4⟩

theorem rchk3 (mk r n : Int) (L : List (Int × Int)) (s y : Int) (md : ByteArray) (T : List Stp) (a : ByteArray) (v : Int) (d : ByteArray) (S : List Stp) (t : ByteArray) (a1 : Option Addr) (e1 : Nat) (a2 : Option Addr) (e2 : Nat) (a3 : Option Addr) (e3 : Nat) (w : World) (h : RcIn w (⟨3, ⟨mk, r, n, L, s, y, md, T⟩, a, v, d, S, t⟩ : Rc) a1 e1 a2 e2 a3 e3) :
  Calls Tryz.prog 15 #[.agg #[.int .i64 3, .int .i64 mk, .int .i64 r, .int .i64 n, .slice a1 L.length e1, .int .i64 s, .int .i64 y, .string md, .slice a2 T.length e2, .string a, .int .i64 v, .string d, .slice a3 S.length e3, .string t]] w fun e w' => e = .returned (.int .i64 (Rc.rcE (⟨3, ⟨mk, r, n, L, s, y, md, T⟩, a, v, d, S, t⟩ : Rc))) /\ Gr w w' := by
 have hm : MvIn w (⟨mk, r, n, L, s, y, md, T⟩ : Mv) a1 e1 a2 e2 := h.mv
 have HX : Hid (Rc.rcE (⟨3, ⟨mk, r, n, L, s, y, md, T⟩, a, v, d, S, t⟩ : Rc) = if (Rc.emB (⟨mk, r, n, L, s, y, md, T⟩ : Mv) && decide (a = ⟨#[]⟩) && decide (v = 0) && Df.defB d S && decide (t = ⟨#[]⟩)) = true then 0 else 140) := rfl
 have H1 : Hid (∀ w', Gr w w' -> Calls Tryz.prog 37 #[.agg #[.int .i64 mk, .int .i64 r, .int .i64 n, .slice a1 L.length e1, .int .i64 s, .int .i64 y, .string md, .slice a2 T.length e2]] w' fun e w2 => e = .returned (.bool (Rc.emB (⟨mk, r, n, L, s, y, md, T⟩ : Mv))) /\ Gr w' w2) := fun w' _ => none_any mk r n L s y md T a1 e1 a2 e2 w'
 have H4 : Hid (∀ w', Gr w w' -> Calls Tryz.prog 30 #[.agg #[.string d, .slice a3 S.length e3]] w' fun e w2 => e = .returned (.int .i64 (if Df.defB d S = true then 0 else 90)) /\ Gr w' w2) := fun w' g => refDCheck_any d S a3 e3 w' (h.stps.gr g) h.nd h.nS h.inS
 generalize Rc.rcE (⟨3, ⟨mk, r, n, L, s, y, md, T⟩, a, v, d, S, t⟩ : Rc) = R at *
 clear h hm
 generalize Rc.emB (⟨mk, r, n, L, s, y, md, T⟩ : Mv) = b1 at *
 generalize Df.defB d S = b4 at *
 have ta : (a.toList == []) = decide (a = ⟨#[]⟩) := text_eq a []
 have tb : (a.toList != []) = !decide (a = ⟨#[]⟩) := text_ne a []
 have va : (v == 0) = decide (v = 0) := by by_cases e : v = 0 <;> simp [e]
 have vb : (v != 0) = !decide (v = 0) := by by_cases e : v = 0 <;> simp [e]
 generalize decide (a = ⟨#[]⟩) = b2 at *
 generalize decide (v = 0) = b3 at *
 have tc : (t.toList == []) = decide (t = ⟨#[]⟩) := text_eq t []
 have td : (t.toList != []) = !decide (t = ⟨#[]⟩) := text_ne t []
 have te : 29000 < (t.size : Int) -> decide (t = ⟨#[]⟩) = false := by
  intro e
  refine decide_eq_false fun q => ?_
  rw [q] at e
  exact absurd e (by decide)
 generalize decide (t = ⟨#[]⟩) = b5 at *
 cases b1 with
 | false =>
  replace HX : Hid (R = 140) := by show _ = _; rw [HX.out]; rfl
  obtain rfl : R = 140 := HX.out
  go_enter Tryz.func15, Tryz.ntmps15
  go_wp2_with fail
  refine (H1.out _ ?_).mono ?_
  ·exact (Gr.refl _).alloc
  rintro e4 w1 ⟨rfl, hg1⟩
  have G1 := (Gr.refl w).alloc.trans hg1
  have B1 := (Cs.new w _ _ _ rfl).gr hg1
  clear hg1
  obtain ⟨c0, c1, c2, c3, c4, c5, c6, c7, c8, c9, c10, c11, c12, c13, clt⟩ := B1.c14
  go_wp2
  go_ret
  exact ⟨rfl, G1⟩
 | true =>
  cases b2 with
  | false =>
   replace HX : Hid (R = 140) := by show _ = _; rw [HX.out]; rfl
   obtain rfl : R = 140 := HX.out
   go_enter Tryz.func15, Tryz.ntmps15
   go_wp2_with fail
   refine (H1.out _ ?_).mono ?_
   ·exact (Gr.refl _).alloc
   rintro e4 w1 ⟨rfl, hg1⟩
   have G1 := (Gr.refl w).alloc.trans hg1
   have B1 := (Cs.new w _ _ _ rfl).gr hg1
   clear hg1
   obtain ⟨c0, c1, c2, c3, c4, c5, c6, c7, c8, c9, c10, c11, c12, c13, clt⟩ := B1.c14
   go_wp2
   go_ret
   exact ⟨rfl, G1⟩
  | true =>
   cases b3 with
   | false =>
    replace HX : Hid (R = 140) := by show _ = _; rw [HX.out]; rfl
    obtain rfl : R = 140 := HX.out
    go_enter Tryz.func15, Tryz.ntmps15
    go_wp2_with fail
    refine (H1.out _ ?_).mono ?_
    ·exact (Gr.refl _).alloc
    rintro e4 w1 ⟨rfl, hg1⟩
    have G1 := (Gr.refl w).alloc.trans hg1
    have B1 := (Cs.new w _ _ _ rfl).gr hg1
    clear hg1
    obtain ⟨c0, c1, c2, c3, c4, c5, c6, c7, c8, c9, c10, c11, c12, c13, clt⟩ := B1.c14
    go_wp2
    go_ret
    exact ⟨rfl, G1⟩
   | true =>
    cases b4 with
    | false =>
     rw [if_neg (by decide)] at H4
     replace HX : Hid (R = 140) := by show _ = _; rw [HX.out]; rfl
     obtain rfl : R = 140 := HX.out
     go_enter Tryz.func15, Tryz.ntmps15
     go_wp2_with fail
     refine (H1.out _ ?_).mono ?_
     ·exact (Gr.refl _).alloc
     rintro e4 w1 ⟨rfl, hg1⟩
     have G1 := (Gr.refl w).alloc.trans hg1
     have B1 := (Cs.new w _ _ _ rfl).gr hg1
     clear hg1
     obtain ⟨c0, c1, c2, c3, c4, c5, c6, c7, c8, c9, c10, c11, c12, c13, clt⟩ := B1.c14
     go_wp2_with fail
     refine (H4.out _ G1).mono ?_
     rintro e5 w2 ⟨rfl, hg2⟩
     have G2 : Gr w w2 := G1.trans hg2
     have B2 := B1.gr hg2
     clear hg2 B1 clt c0 c1 c2 c3 c4 c5 c6 c7 c8 c9 c10 c11 c12 c13
     obtain ⟨c0, c1, c2, c3, c4, c5, c6, c7, c8, c9, c10, c11, c12, c13, clt⟩ := B2.c14
     go_wp2
     go_ret
     exact ⟨rfl, G2⟩
    | true =>
     rw [if_pos rfl] at H4
     by_cases hl : 29000 < (t.size : Int)
     ·obtain rfl := te hl
      obtain rfl : R = 140 := HX.out
      go_enter Tryz.func15, Tryz.ntmps15
      go_wp2_with fail
      refine (H1.out _ ?_).mono ?_
      ·exact (Gr.refl _).alloc
      rintro e4 w1 ⟨rfl, hg1⟩
      have G1 := (Gr.refl w).alloc.trans hg1
      have B1 := (Cs.new w _ _ _ rfl).gr hg1
      clear hg1
      obtain ⟨c0, c1, c2, c3, c4, c5, c6, c7, c8, c9, c10, c11, c12, c13, clt⟩ := B1.c14
      go_wp2_with fail
      refine (H4.out _ G1).mono ?_
      rintro e5 w2 ⟨rfl, hg2⟩
      have G2 : Gr w w2 := G1.trans hg2
      have B2 := B1.gr hg2
      clear hg2 B1 clt c0 c1 c2 c3 c4 c5 c6 c7 c8 c9 c10 c11 c12 c13
      obtain ⟨c0, c1, c2, c3, c4, c5, c6, c7, c8, c9, c10, c11, c12, c13, clt⟩ := B2.c14
      go_wp2
      go_ret
      exact ⟨rfl, G2⟩
     ·clear te
      cases b5 with
      | false =>
       obtain rfl : R = 140 := HX.out
       go_enter Tryz.func15, Tryz.ntmps15
       go_wp2_with fail
       refine (H1.out _ ?_).mono ?_
       ·exact (Gr.refl _).alloc
       rintro e4 w1 ⟨rfl, hg1⟩
       have G1 := (Gr.refl w).alloc.trans hg1
       have B1 := (Cs.new w _ _ _ rfl).gr hg1
       clear hg1
       obtain ⟨c0, c1, c2, c3, c4, c5, c6, c7, c8, c9, c10, c11, c12, c13, clt⟩ := B1.c14
       go_wp2_with fail
       refine (H4.out _ G1).mono ?_
       rintro e5 w2 ⟨rfl, hg2⟩
       have G2 : Gr w w2 := G1.trans hg2
       have B2 := B1.gr hg2
       clear hg2 B1 clt c0 c1 c2 c3 c4 c5 c6 c7 c8 c9 c10 c11 c12 c13
       obtain ⟨c0, c1, c2, c3, c4, c5, c6, c7, c8, c9, c10, c11, c12, c13, clt⟩ := B2.c14
       go_wp2
       go_ret
       exact ⟨rfl, G2⟩
      | true =>
       obtain rfl : R = 0 := HX.out
       go_enter Tryz.func15, Tryz.ntmps15
       go_wp2_with fail
       refine (H1.out _ ?_).mono ?_
       ·exact (Gr.refl _).alloc
       rintro e4 w1 ⟨rfl, hg1⟩
       have G1 := (Gr.refl w).alloc.trans hg1
       have B1 := (Cs.new w _ _ _ rfl).gr hg1
       clear hg1
       obtain ⟨c0, c1, c2, c3, c4, c5, c6, c7, c8, c9, c10, c11, c12, c13, clt⟩ := B1.c14
       go_wp2_with fail
       refine (H4.out _ G1).mono ?_
       rintro e5 w2 ⟨rfl, hg2⟩
       have G2 : Gr w w2 := G1.trans hg2
       have B2 := B1.gr hg2
       clear hg2 B1 clt c0 c1 c2 c3 c4 c5 c6 c7 c8 c9 c10 c11 c12 c13
       obtain ⟨c0, c1, c2, c3, c4, c5, c6, c7, c8, c9, c10, c11, c12, c13, clt⟩ := B2.c14
       go_wp2
       go_ret
       exact ⟨rfl, G2⟩

theorem rchk4 (mk r n : Int) (L : List (Int × Int)) (s y : Int) (md : ByteArray) (T : List Stp) (a : ByteArray) (v : Int) (d : ByteArray) (S : List Stp) (t : ByteArray) (a1 : Option Addr) (e1 : Nat) (a2 : Option Addr) (e2 : Nat) (a3 : Option Addr) (e3 : Nat) (w : World) (h : RcIn w (⟨4, ⟨mk, r, n, L, s, y, md, T⟩, a, v, d, S, t⟩ : Rc) a1 e1 a2 e2 a3 e3) :
  Calls Tryz.prog 15 #[.agg #[.int .i64 4, .int .i64 mk, .int .i64 r, .int .i64 n, .slice a1 L.length e1, .int .i64 s, .int .i64 y, .string md, .slice a2 T.length e2, .string a, .int .i64 v, .string d, .slice a3 S.length e3, .string t]] w fun e w' => e = .returned (.int .i64 (Rc.rcE (⟨4, ⟨mk, r, n, L, s, y, md, T⟩, a, v, d, S, t⟩ : Rc))) /\ Gr w w' := by
 have hm : MvIn w (⟨mk, r, n, L, s, y, md, T⟩ : Mv) a1 e1 a2 e2 := h.mv
 have HX : Hid (Rc.rcE (⟨4, ⟨mk, r, n, L, s, y, md, T⟩, a, v, d, S, t⟩ : Rc) = if (Rc.emB (⟨mk, r, n, L, s, y, md, T⟩ : Mv) && decide (a = ⟨#[]⟩) && decide (v = 0) && Rc.baB d S && decide (t = ⟨#[]⟩)) = true then 0 else 140) := rfl
 have H1 : Hid (∀ w', Gr w w' -> Calls Tryz.prog 37 #[.agg #[.int .i64 mk, .int .i64 r, .int .i64 n, .slice a1 L.length e1, .int .i64 s, .int .i64 y, .string md, .slice a2 T.length e2]] w' fun e w2 => e = .returned (.bool (Rc.emB (⟨mk, r, n, L, s, y, md, T⟩ : Mv))) /\ Gr w' w2) := fun w' _ => none_any mk r n L s y md T a1 e1 a2 e2 w'
 have H4 : Hid (∀ w', Gr w w' -> Calls Tryz.prog 31 #[.agg #[.string d, .slice a3 S.length e3]] w' fun e w2 => e = .returned (.bool (Rc.baB d S)) /\ Gr w' w2) := fun w' _ => bare_any d S a3 e3 w'
 generalize Rc.rcE (⟨4, ⟨mk, r, n, L, s, y, md, T⟩, a, v, d, S, t⟩ : Rc) = R at *
 clear h hm
 generalize Rc.emB (⟨mk, r, n, L, s, y, md, T⟩ : Mv) = b1 at *
 generalize Rc.baB d S = b4 at *
 have ta : (a.toList == []) = decide (a = ⟨#[]⟩) := text_eq a []
 have tb : (a.toList != []) = !decide (a = ⟨#[]⟩) := text_ne a []
 have va : (v == 0) = decide (v = 0) := by by_cases e : v = 0 <;> simp [e]
 have vb : (v != 0) = !decide (v = 0) := by by_cases e : v = 0 <;> simp [e]
 generalize decide (a = ⟨#[]⟩) = b2 at *
 generalize decide (v = 0) = b3 at *
 have tc : (t.toList == []) = decide (t = ⟨#[]⟩) := text_eq t []
 have td : (t.toList != []) = !decide (t = ⟨#[]⟩) := text_ne t []
 have te : 29000 < (t.size : Int) -> decide (t = ⟨#[]⟩) = false := by
  intro e
  refine decide_eq_false fun q => ?_
  rw [q] at e
  exact absurd e (by decide)
 generalize decide (t = ⟨#[]⟩) = b5 at *
 cases b1 with
 | false =>
  replace HX : Hid (R = 140) := by show _ = _; rw [HX.out]; rfl
  obtain rfl : R = 140 := HX.out
  go_enter Tryz.func15, Tryz.ntmps15
  go_wp2_with fail
  refine (H1.out _ ?_).mono ?_
  ·exact (Gr.refl _).alloc
  rintro e4 w1 ⟨rfl, hg1⟩
  have G1 := (Gr.refl w).alloc.trans hg1
  have B1 := (Cs.new w _ _ _ rfl).gr hg1
  clear hg1
  obtain ⟨c0, c1, c2, c3, c4, c5, c6, c7, c8, c9, c10, c11, c12, c13, clt⟩ := B1.c14
  go_wp2
  go_ret
  exact ⟨rfl, G1⟩
 | true =>
  cases b2 with
  | false =>
   replace HX : Hid (R = 140) := by show _ = _; rw [HX.out]; rfl
   obtain rfl : R = 140 := HX.out
   go_enter Tryz.func15, Tryz.ntmps15
   go_wp2_with fail
   refine (H1.out _ ?_).mono ?_
   ·exact (Gr.refl _).alloc
   rintro e4 w1 ⟨rfl, hg1⟩
   have G1 := (Gr.refl w).alloc.trans hg1
   have B1 := (Cs.new w _ _ _ rfl).gr hg1
   clear hg1
   obtain ⟨c0, c1, c2, c3, c4, c5, c6, c7, c8, c9, c10, c11, c12, c13, clt⟩ := B1.c14
   go_wp2
   go_ret
   exact ⟨rfl, G1⟩
  | true =>
   cases b3 with
   | false =>
    replace HX : Hid (R = 140) := by show _ = _; rw [HX.out]; rfl
    obtain rfl : R = 140 := HX.out
    go_enter Tryz.func15, Tryz.ntmps15
    go_wp2_with fail
    refine (H1.out _ ?_).mono ?_
    ·exact (Gr.refl _).alloc
    rintro e4 w1 ⟨rfl, hg1⟩
    have G1 := (Gr.refl w).alloc.trans hg1
    have B1 := (Cs.new w _ _ _ rfl).gr hg1
    clear hg1
    obtain ⟨c0, c1, c2, c3, c4, c5, c6, c7, c8, c9, c10, c11, c12, c13, clt⟩ := B1.c14
    go_wp2
    go_ret
    exact ⟨rfl, G1⟩
   | true =>
    cases b4 with
    | false =>
     replace HX : Hid (R = 140) := by show _ = _; rw [HX.out]; rfl
     obtain rfl : R = 140 := HX.out
     go_enter Tryz.func15, Tryz.ntmps15
     go_wp2_with fail
     refine (H1.out _ ?_).mono ?_
     ·exact (Gr.refl _).alloc
     rintro e4 w1 ⟨rfl, hg1⟩
     have G1 := (Gr.refl w).alloc.trans hg1
     have B1 := (Cs.new w _ _ _ rfl).gr hg1
     clear hg1
     obtain ⟨c0, c1, c2, c3, c4, c5, c6, c7, c8, c9, c10, c11, c12, c13, clt⟩ := B1.c14
     go_wp2_with fail
     refine (H4.out _ G1).mono ?_
     rintro e5 w2 ⟨rfl, hg2⟩
     have G2 : Gr w w2 := G1.trans hg2
     have B2 := B1.gr hg2
     clear hg2 B1 clt c0 c1 c2 c3 c4 c5 c6 c7 c8 c9 c10 c11 c12 c13
     obtain ⟨c0, c1, c2, c3, c4, c5, c6, c7, c8, c9, c10, c11, c12, c13, clt⟩ := B2.c14
     go_wp2
     go_ret
     exact ⟨rfl, G2⟩
    | true =>
     by_cases hl : 29000 < (t.size : Int)
     ·obtain rfl := te hl
      obtain rfl : R = 140 := HX.out
      go_enter Tryz.func15, Tryz.ntmps15
      go_wp2_with fail
      refine (H1.out _ ?_).mono ?_
      ·exact (Gr.refl _).alloc
      rintro e4 w1 ⟨rfl, hg1⟩
      have G1 := (Gr.refl w).alloc.trans hg1
      have B1 := (Cs.new w _ _ _ rfl).gr hg1
      clear hg1
      obtain ⟨c0, c1, c2, c3, c4, c5, c6, c7, c8, c9, c10, c11, c12, c13, clt⟩ := B1.c14
      go_wp2_with fail
      refine (H4.out _ G1).mono ?_
      rintro e5 w2 ⟨rfl, hg2⟩
      have G2 : Gr w w2 := G1.trans hg2
      have B2 := B1.gr hg2
      clear hg2 B1 clt c0 c1 c2 c3 c4 c5 c6 c7 c8 c9 c10 c11 c12 c13
      obtain ⟨c0, c1, c2, c3, c4, c5, c6, c7, c8, c9, c10, c11, c12, c13, clt⟩ := B2.c14
      go_wp2
      go_ret
      exact ⟨rfl, G2⟩
     ·clear te
      cases b5 with
      | false =>
       obtain rfl : R = 140 := HX.out
       go_enter Tryz.func15, Tryz.ntmps15
       go_wp2_with fail
       refine (H1.out _ ?_).mono ?_
       ·exact (Gr.refl _).alloc
       rintro e4 w1 ⟨rfl, hg1⟩
       have G1 := (Gr.refl w).alloc.trans hg1
       have B1 := (Cs.new w _ _ _ rfl).gr hg1
       clear hg1
       obtain ⟨c0, c1, c2, c3, c4, c5, c6, c7, c8, c9, c10, c11, c12, c13, clt⟩ := B1.c14
       go_wp2_with fail
       refine (H4.out _ G1).mono ?_
       rintro e5 w2 ⟨rfl, hg2⟩
       have G2 : Gr w w2 := G1.trans hg2
       have B2 := B1.gr hg2
       clear hg2 B1 clt c0 c1 c2 c3 c4 c5 c6 c7 c8 c9 c10 c11 c12 c13
       obtain ⟨c0, c1, c2, c3, c4, c5, c6, c7, c8, c9, c10, c11, c12, c13, clt⟩ := B2.c14
       go_wp2
       go_ret
       exact ⟨rfl, G2⟩
      | true =>
       obtain rfl : R = 0 := HX.out
       go_enter Tryz.func15, Tryz.ntmps15
       go_wp2_with fail
       refine (H1.out _ ?_).mono ?_
       ·exact (Gr.refl _).alloc
       rintro e4 w1 ⟨rfl, hg1⟩
       have G1 := (Gr.refl w).alloc.trans hg1
       have B1 := (Cs.new w _ _ _ rfl).gr hg1
       clear hg1
       obtain ⟨c0, c1, c2, c3, c4, c5, c6, c7, c8, c9, c10, c11, c12, c13, clt⟩ := B1.c14
       go_wp2_with fail
       refine (H4.out _ G1).mono ?_
       rintro e5 w2 ⟨rfl, hg2⟩
       have G2 : Gr w w2 := G1.trans hg2
       have B2 := B1.gr hg2
       clear hg2 B1 clt c0 c1 c2 c3 c4 c5 c6 c7 c8 c9 c10 c11 c12 c13
       obtain ⟨c0, c1, c2, c3, c4, c5, c6, c7, c8, c9, c10, c11, c12, c13, clt⟩ := B2.c14
       go_wp2
       go_ret
       exact ⟨rfl, G2⟩

theorem rchk5 (mk r n : Int) (L : List (Int × Int)) (s y : Int) (md : ByteArray) (T : List Stp) (a : ByteArray) (v : Int) (d : ByteArray) (S : List Stp) (t : ByteArray) (a1 : Option Addr) (e1 : Nat) (a2 : Option Addr) (e2 : Nat) (a3 : Option Addr) (e3 : Nat) (w : World) (h : RcIn w (⟨5, ⟨mk, r, n, L, s, y, md, T⟩, a, v, d, S, t⟩ : Rc) a1 e1 a2 e2 a3 e3) :
  Calls Tryz.prog 15 #[.agg #[.int .i64 5, .int .i64 mk, .int .i64 r, .int .i64 n, .slice a1 L.length e1, .int .i64 s, .int .i64 y, .string md, .slice a2 T.length e2, .string a, .int .i64 v, .string d, .slice a3 S.length e3, .string t]] w fun e w' => e = .returned (.int .i64 (Rc.rcE (⟨5, ⟨mk, r, n, L, s, y, md, T⟩, a, v, d, S, t⟩ : Rc))) /\ Gr w w' := by
 have hm : MvIn w (⟨mk, r, n, L, s, y, md, T⟩ : Mv) a1 e1 a2 e2 := h.mv
 have HX : Hid (Rc.rcE (⟨5, ⟨mk, r, n, L, s, y, md, T⟩, a, v, d, S, t⟩ : Rc) = if (Rc.emB (⟨mk, r, n, L, s, y, md, T⟩ : Mv) && decide (a = ⟨#[]⟩) && decide (v = 0) && Rc.baB d S && decide (t.size <= 29000)) = true then 0 else 140) := rfl
 have H1 : Hid (∀ w', Gr w w' -> Calls Tryz.prog 37 #[.agg #[.int .i64 mk, .int .i64 r, .int .i64 n, .slice a1 L.length e1, .int .i64 s, .int .i64 y, .string md, .slice a2 T.length e2]] w' fun e w2 => e = .returned (.bool (Rc.emB (⟨mk, r, n, L, s, y, md, T⟩ : Mv))) /\ Gr w' w2) := fun w' _ => none_any mk r n L s y md T a1 e1 a2 e2 w'
 have H4 : Hid (∀ w', Gr w w' -> Calls Tryz.prog 31 #[.agg #[.string d, .slice a3 S.length e3]] w' fun e w2 => e = .returned (.bool (Rc.baB d S)) /\ Gr w' w2) := fun w' _ => bare_any d S a3 e3 w'
 generalize Rc.rcE (⟨5, ⟨mk, r, n, L, s, y, md, T⟩, a, v, d, S, t⟩ : Rc) = R at *
 clear h hm
 generalize Rc.emB (⟨mk, r, n, L, s, y, md, T⟩ : Mv) = b1 at *
 generalize Rc.baB d S = b4 at *
 have ta : (a.toList == []) = decide (a = ⟨#[]⟩) := text_eq a []
 have tb : (a.toList != []) = !decide (a = ⟨#[]⟩) := text_ne a []
 have va : (v == 0) = decide (v = 0) := by by_cases e : v = 0 <;> simp [e]
 have vb : (v != 0) = !decide (v = 0) := by by_cases e : v = 0 <;> simp [e]
 generalize decide (a = ⟨#[]⟩) = b2 at *
 generalize decide (v = 0) = b3 at *
 have tz : decide (29000 < (t.size : Int)) = !decide (t.size <= 29000) := by
  by_cases e : t.size <= 29000
  ·rw [decide_eq_true e, decide_eq_false (by omega)]; rfl
  ·rw [decide_eq_false e, decide_eq_true (by omega)]; rfl
 have tc : 29000 < (t.size : Int) ↔ ¬ t.size <= 29000 := by omega
 cases b1 with
 | false =>
  replace HX : Hid (R = 140) := by show _ = _; rw [HX.out]; rfl
  obtain rfl : R = 140 := HX.out
  go_enter Tryz.func15, Tryz.ntmps15
  go_wp2_with fail
  refine (H1.out _ ?_).mono ?_
  ·exact (Gr.refl _).alloc
  rintro e4 w1 ⟨rfl, hg1⟩
  have G1 := (Gr.refl w).alloc.trans hg1
  have B1 := (Cs.new w _ _ _ rfl).gr hg1
  clear hg1
  obtain ⟨c0, c1, c2, c3, c4, c5, c6, c7, c8, c9, c10, c11, c12, c13, clt⟩ := B1.c14
  go_wp2
  go_ret
  exact ⟨rfl, G1⟩
 | true =>
  cases b2 with
  | false =>
   replace HX : Hid (R = 140) := by show _ = _; rw [HX.out]; rfl
   obtain rfl : R = 140 := HX.out
   go_enter Tryz.func15, Tryz.ntmps15
   go_wp2_with fail
   refine (H1.out _ ?_).mono ?_
   ·exact (Gr.refl _).alloc
   rintro e4 w1 ⟨rfl, hg1⟩
   have G1 := (Gr.refl w).alloc.trans hg1
   have B1 := (Cs.new w _ _ _ rfl).gr hg1
   clear hg1
   obtain ⟨c0, c1, c2, c3, c4, c5, c6, c7, c8, c9, c10, c11, c12, c13, clt⟩ := B1.c14
   go_wp2
   go_ret
   exact ⟨rfl, G1⟩
  | true =>
   cases b3 with
   | false =>
    replace HX : Hid (R = 140) := by show _ = _; rw [HX.out]; rfl
    obtain rfl : R = 140 := HX.out
    go_enter Tryz.func15, Tryz.ntmps15
    go_wp2_with fail
    refine (H1.out _ ?_).mono ?_
    ·exact (Gr.refl _).alloc
    rintro e4 w1 ⟨rfl, hg1⟩
    have G1 := (Gr.refl w).alloc.trans hg1
    have B1 := (Cs.new w _ _ _ rfl).gr hg1
    clear hg1
    obtain ⟨c0, c1, c2, c3, c4, c5, c6, c7, c8, c9, c10, c11, c12, c13, clt⟩ := B1.c14
    go_wp2
    go_ret
    exact ⟨rfl, G1⟩
   | true =>
    cases b4 with
    | false =>
     replace HX : Hid (R = 140) := by show _ = _; rw [HX.out]; rfl
     obtain rfl : R = 140 := HX.out
     go_enter Tryz.func15, Tryz.ntmps15
     go_wp2_with fail
     refine (H1.out _ ?_).mono ?_
     ·exact (Gr.refl _).alloc
     rintro e4 w1 ⟨rfl, hg1⟩
     have G1 := (Gr.refl w).alloc.trans hg1
     have B1 := (Cs.new w _ _ _ rfl).gr hg1
     clear hg1
     obtain ⟨c0, c1, c2, c3, c4, c5, c6, c7, c8, c9, c10, c11, c12, c13, clt⟩ := B1.c14
     go_wp2_with fail
     refine (H4.out _ G1).mono ?_
     rintro e5 w2 ⟨rfl, hg2⟩
     have G2 : Gr w w2 := G1.trans hg2
     have B2 := B1.gr hg2
     clear hg2 B1 clt c0 c1 c2 c3 c4 c5 c6 c7 c8 c9 c10 c11 c12 c13
     obtain ⟨c0, c1, c2, c3, c4, c5, c6, c7, c8, c9, c10, c11, c12, c13, clt⟩ := B2.c14
     go_wp2
     go_ret
     exact ⟨rfl, G2⟩
    | true =>
     clear tz tc
     by_cases hl : 29000 < (t.size : Int)
     ·rw [decide_eq_false (by omega)] at HX
      obtain rfl : R = 140 := HX.out
      go_enter Tryz.func15, Tryz.ntmps15
      go_wp2_with fail
      refine (H1.out _ ?_).mono ?_
      ·exact (Gr.refl _).alloc
      rintro e4 w1 ⟨rfl, hg1⟩
      have G1 := (Gr.refl w).alloc.trans hg1
      have B1 := (Cs.new w _ _ _ rfl).gr hg1
      clear hg1
      obtain ⟨c0, c1, c2, c3, c4, c5, c6, c7, c8, c9, c10, c11, c12, c13, clt⟩ := B1.c14
      go_wp2_with fail
      refine (H4.out _ G1).mono ?_
      rintro e5 w2 ⟨rfl, hg2⟩
      have G2 : Gr w w2 := G1.trans hg2
      have B2 := B1.gr hg2
      clear hg2 B1 clt c0 c1 c2 c3 c4 c5 c6 c7 c8 c9 c10 c11 c12 c13
      obtain ⟨c0, c1, c2, c3, c4, c5, c6, c7, c8, c9, c10, c11, c12, c13, clt⟩ := B2.c14
      go_wp2
      go_ret
      exact ⟨rfl, G2⟩
     ·rw [decide_eq_true (by omega)] at HX
      obtain rfl : R = 0 := HX.out
      go_enter Tryz.func15, Tryz.ntmps15
      go_wp2_with fail
      refine (H1.out _ ?_).mono ?_
      ·exact (Gr.refl _).alloc
      rintro e4 w1 ⟨rfl, hg1⟩
      have G1 := (Gr.refl w).alloc.trans hg1
      have B1 := (Cs.new w _ _ _ rfl).gr hg1
      clear hg1
      obtain ⟨c0, c1, c2, c3, c4, c5, c6, c7, c8, c9, c10, c11, c12, c13, clt⟩ := B1.c14
      go_wp2_with fail
      refine (H4.out _ G1).mono ?_
      rintro e5 w2 ⟨rfl, hg2⟩
      have G2 : Gr w w2 := G1.trans hg2
      have B2 := B1.gr hg2
      clear hg2 B1 clt c0 c1 c2 c3 c4 c5 c6 c7 c8 c9 c10 c11 c12 c13
      obtain ⟨c0, c1, c2, c3, c4, c5, c6, c7, c8, c9, c10, c11, c12, c13, clt⟩ := B2.c14
      go_wp2
      go_ret
      exact ⟨rfl, G2⟩

theorem rchkL (k : Int) (mk r n : Int) (L : List (Int × Int)) (s y : Int) (md : ByteArray) (T : List Stp) (a : ByteArray) (v : Int) (d : ByteArray) (S : List Stp) (t : ByteArray) (a1 : Option Addr) (e1 : Nat) (a2 : Option Addr) (e2 : Nat) (a3 : Option Addr) (e3 : Nat) (w : World) (h : k < 1) :
  Calls Tryz.prog 15 #[.agg #[.int .i64 k, .int .i64 mk, .int .i64 r, .int .i64 n, .slice a1 L.length e1, .int .i64 s, .int .i64 y, .string md, .slice a2 T.length e2, .string a, .int .i64 v, .string d, .slice a3 S.length e3, .string t]] w fun e w' => e = .returned (.int .i64 (Rc.rcE (⟨k, ⟨mk, r, n, L, s, y, md, T⟩, a, v, d, S, t⟩ : Rc))) /\ Gr w w' := by
 have HM : Hid (Rc.rcE (⟨k, ⟨mk, r, n, L, s, y, md, T⟩, a, v, d, S, t⟩ : Rc) = 140) := by
  show _ = _
  unfold Rc.rcE Rc.rcB Rc.inB
  simp only
  rw [decide_eq_false (by omega : ¬ 1 <= k)]; rfl
 generalize Rc.rcE (⟨k, ⟨mk, r, n, L, s, y, md, T⟩, a, v, d, S, t⟩ : Rc) = R at *
 obtain rfl : R = 140 := HM.out
 clear HM
 go_enter Tryz.func15, Tryz.ntmps15
 go_wp2
 go_ret
 exact ⟨rfl, (by repeat(first|exact Gr.r _|refine Gr.a ?_|refine Gr.d ?_|refine Gr.t ?_ (by assumption)))⟩

theorem rchkH (k : Int) (mk r n : Int) (L : List (Int × Int)) (s y : Int) (md : ByteArray) (T : List Stp) (a : ByteArray) (v : Int) (d : ByteArray) (S : List Stp) (t : ByteArray) (a1 : Option Addr) (e1 : Nat) (a2 : Option Addr) (e2 : Nat) (a3 : Option Addr) (e3 : Nat) (w : World) (h : 5 < k) :
  Calls Tryz.prog 15 #[.agg #[.int .i64 k, .int .i64 mk, .int .i64 r, .int .i64 n, .slice a1 L.length e1, .int .i64 s, .int .i64 y, .string md, .slice a2 T.length e2, .string a, .int .i64 v, .string d, .slice a3 S.length e3, .string t]] w fun e w' => e = .returned (.int .i64 (Rc.rcE (⟨k, ⟨mk, r, n, L, s, y, md, T⟩, a, v, d, S, t⟩ : Rc))) /\ Gr w w' := by
 have HM : Hid (Rc.rcE (⟨k, ⟨mk, r, n, L, s, y, md, T⟩, a, v, d, S, t⟩ : Rc) = 140) := by
  show _ = _
  unfold Rc.rcE Rc.rcB Rc.inB
  simp only
  rw [decide_eq_false (by omega : ¬ k <= 5), Bool.and_false]; rfl
 generalize Rc.rcE (⟨k, ⟨mk, r, n, L, s, y, md, T⟩, a, v, d, S, t⟩ : Rc) = R at *
 obtain rfl : R = 140 := HM.out
 clear HM
 have h1 : ¬ k < 1 := by omega
 go_enter Tryz.func15, Tryz.ntmps15
 go_wp2
 go_ret
 exact ⟨rfl, (by repeat(first|exact Gr.r _|refine Gr.a ?_|refine Gr.d ?_|refine Gr.t ?_ (by assumption)))⟩


theorem rchk_any (k : Int) (mk r n : Int) (L : List (Int × Int)) (s y : Int) (md : ByteArray) (T : List Stp) (a : ByteArray) (v : Int) (d : ByteArray) (S : List Stp) (t : ByteArray) (a1 : Option Addr) (e1 : Nat) (a2 : Option Addr) (e2 : Nat) (a3 : Option Addr) (e3 : Nat) (w : World) (h : RcIn w (⟨k, ⟨mk, r, n, L, s, y, md, T⟩, a, v, d, S, t⟩ : Rc) a1 e1 a2 e2 a3 e3) :
  Calls Tryz.prog 15 #[.agg #[.int .i64 k, .int .i64 mk, .int .i64 r, .int .i64 n, .slice a1 L.length e1, .int .i64 s, .int .i64 y, .string md, .slice a2 T.length e2, .string a, .int .i64 v, .string d, .slice a3 S.length e3, .string t]] w fun e w' => e = .returned (.int .i64 (Rc.rcE (⟨k, ⟨mk, r, n, L, s, y, md, T⟩, a, v, d, S, t⟩ : Rc))) /\ Gr w w' := by
 by_cases lo : k < 1
 ·exact rchkL k mk r n L s y md T a v d S t a1 e1 a2 e2 a3 e3 w lo
 by_cases hi : 5 < k
 ·exact rchkH k mk r n L s y md T a v d S t a1 e1 a2 e2 a3 e3 w hi
 rcases (show k = 1 ∨ k = 2 ∨ k = 3 ∨ k = 4 ∨ k = 5 by omega) with rfl | rfl | rfl | rfl | rfl
 ·exact rchk1 mk r n L s y md T a v d S t a1 e1 a2 e2 a3 e3 w h
 ·exact rchk2 mk r n L s y md T a v d S t a1 e1 a2 e2 a3 e3 w h
 ·exact rchk3 mk r n L s y md T a v d S t a1 e1 a2 e2 a3 e3 w h
 ·exact rchk4 mk r n L s y md T a v d S t a1 e1 a2 e2 a3 e3 w h
 ·exact rchk5 mk r n L s y md T a v d S t a1 e1 a2 e2 a3 e3 w h
end Go.Proofs.YthaadiclopoamaaGreatDoor
