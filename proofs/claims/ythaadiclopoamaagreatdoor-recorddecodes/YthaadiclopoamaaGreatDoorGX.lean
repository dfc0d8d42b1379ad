/- Parts of these proofs, laid together. -/
import Derived.Test.YthaadiclopoamaaGreatDoorGW
/- record: Check. -/
set_option maxRecDepth 100000
set_option maxHeartbeats 8000000
namespace Go.Proofs.YthaadiclopoamaaGreatDoor
open Go.RowKit
open Df (Stp)

theorem rCheck_any (k mk r n : Int) (L : List (Int × Int)) (s y : Int) (md : ByteArray) (T : List Stp) (a : ByteArray) (v : Int) (d : ByteArray) (S : List Stp) (t : ByteArray) (a1 : Option Addr) (e1 : Nat) (a2 : Option Addr) (e2 : Nat) (a3 : Option Addr) (e3 : Nat) (w : World) (h : RcIn w (⟨k, ⟨mk, r, n, L, s, y, md, T⟩, a, v, d, S, t⟩ : Rc) a1 e1 a2 e2 a3 e3) (hF : Forms w) :
  Calls Tryz.prog 14 #[.agg #[.int .i64 k, .int .i64 mk, .int .i64 r, .int .i64 n, .slice a1 L.length e1, .int .i64 s, .int .i64 y, .string md, .slice a2 T.length e2, .string a, .int .i64 v, .string d, .slice a3 S.length e3, .string t]] w fun e w' => e = .returned (.int .i64 (Rc.rcE (⟨k, ⟨mk, r, n, L, s, y, md, T⟩, a, v, d, S, t⟩ : Rc))) /\ Gr w w' := by
 have HW : Hid (∀ w', Gr w w' -> Calls Tryz.prog 32 #[.agg #[.int .i64 k, .int .i64 mk, .int .i64 r, .int .i64 n, .slice a1 L.length e1, .int .i64 s, .int .i64 y, .string md, .slice a2 T.length e2, .string a, .int .i64 v, .string d, .slice a3 S.length e3, .string t]] w' fun e w2 => ∃ p1 q1 p2 q2 p3 q3, e = .returned (.tuple #[.agg #[.int .i64 (Rc.wo (⟨k, ⟨mk, r, n, L, s, y, md, T⟩, a, v, d, S, t⟩ : Rc)).k, .int .i64 (Rc.wo (⟨k, ⟨mk, r, n, L, s, y, md, T⟩, a, v, d, S, t⟩ : Rc)).m.k, .int .i64 (Rc.wo (⟨k, ⟨mk, r, n, L, s, y, md, T⟩, a, v, d, S, t⟩ : Rc)).m.r, .int .i64 (Rc.wo (⟨k, ⟨mk, r, n, L, s, y, md, T⟩, a, v, d, S, t⟩ : Rc)).m.n, .slice p1 (Rc.wo (⟨k, ⟨mk, r, n, L, s, y, md, T⟩, a, v, d, S, t⟩ : Rc)).m.L.length q1, .int .i64 (Rc.wo (⟨k, ⟨mk, r, n, L, s, y, md, T⟩, a, v, d, S, t⟩ : Rc)).m.s, .int .i64 (Rc.wo (⟨k, ⟨mk, r, n, L, s, y, md, T⟩, a, v, d, S, t⟩ : Rc)).m.y, .string (Rc.wo (⟨k, ⟨mk, r, n, L, s, y, md, T⟩, a, v, d, S, t⟩ : Rc)).m.d, .slice p2 (Rc.wo (⟨k, ⟨mk, r, n, L, s, y, md, T⟩, a, v, d, S, t⟩ : Rc)).m.S.length q2, .string (Rc.wo (⟨k, ⟨mk, r, n, L, s, y, md, T⟩, a, v, d, S, t⟩ : Rc)).a, .int .i64 (Rc.wo (⟨k, ⟨mk, r, n, L, s, y, md, T⟩, a, v, d, S, t⟩ : Rc)).v, .string (Rc.wo (⟨k, ⟨mk, r, n, L, s, y, md, T⟩, a, v, d, S, t⟩ : Rc)).d, .slice p3 (Rc.wo (⟨k, ⟨mk, r, n, L, s, y, md, T⟩, a, v, d, S, t⟩ : Rc)).S.length q3, .string (Rc.wo (⟨k, ⟨mk, r, n, L, s, y, md, T⟩, a, v, d, S, t⟩ : Rc)).t], .bool (Rc.woB (⟨k, ⟨mk, r, n, L, s, y, md, T⟩, a, v, d, S, t⟩ : Rc))]) /\ Gr w' w2) := fun w' g => without_any k mk r n L s y md T a v d S t a1 e1 a2 e2 a3 e3 w' (h.gr g) (hF.gr g)
 have HE : Hid (Rc.rcE (⟨k, ⟨mk, r, n, L, s, y, md, T⟩, a, v, d, S, t⟩ : Rc) = if (Rc.woB (⟨k, ⟨mk, r, n, L, s, y, md, T⟩, a, v, d, S, t⟩ : Rc) && Rc.emR (Rc.wo (⟨k, ⟨mk, r, n, L, s, y, md, T⟩, a, v, d, S, t⟩ : Rc))) = true then 0 else 140) := by
  show _ = _
  rw [<- Rc.wo_rc]; rfl
 generalize Rc.rcE (⟨k, ⟨mk, r, n, L, s, y, md, T⟩, a, v, d, S, t⟩ : Rc) = R at *
 generalize Rc.wo (⟨k, ⟨mk, r, n, L, s, y, md, T⟩, a, v, d, S, t⟩ : Rc) = X at *
 generalize Rc.woB (⟨k, ⟨mk, r, n, L, s, y, md, T⟩, a, v, d, S, t⟩ : Rc) = b0 at *
 obtain ⟨k2, ⟨mk2, r2, n2, L2, s2, y2, md2, T2⟩, b, u, d2, S2, t2⟩ := X
 unfold Rc.emR at HE
 simp only at HW HE
 have H1 : Hid (∀ (w' : World) (p1 : Option Addr) (q1 : Nat) (p2 : Option Addr) (q2 : Nat), Calls Tryz.prog 33 #[.agg #[.int .i64 mk2, .int .i64 r2, .int .i64 n2, .slice p1 L2.length q1, .int .i64 s2, .int .i64 y2, .string md2, .slice p2 T2.length q2]] w' fun e w2 => e = .returned (.bool (Rc.emB ⟨mk2, r2, n2, L2, s2, y2, md2, T2⟩)) /\ Gr w' w2) := fun w' p1 q1 p2 q2 => emptyMove_any mk2 r2 n2 L2 s2 y2 md2 T2 p1 q1 p2 q2 w'
 have H2 : Hid (∀ (w' : World) (p3 : Option Addr) (q3 : Nat), Calls Tryz.prog 34 #[.agg #[.string d2, .slice p3 S2.length q3]] w' fun e w2 => e = .returned (.bool (Rc.baB d2 S2)) /\ Gr w' w2) := fun w' p3 q3 => emptyDef_any d2 S2 p3 q3 w'
 have H3 : Hid (∀ (w' : World) (g : Nat), Cs w' g [.string b, .string t2] -> Calls Tryz.prog 35 #[.slice (some ⟨g, 0, none⟩) 2 2] w' fun e w2 => e = .returned (.bool (decide (b = ⟨#[]⟩) && decide (t2 = ⟨#[]⟩))) /\ w2 = w') := fun w' g q => emptyS2 b t2 g w' q
 have H4 : Hid (∀ (w' : World) (g : Nat), w'.cell? ⟨g, 0, none⟩ = some (.int .i64 u) -> Calls Tryz.prog 36 #[.slice (some ⟨g, 0, none⟩) 1 1] w' fun e w2 => e = .returned (.bool (decide (u = 0))) /\ w2 = w') := fun w' g q => emptyL1 u g w' q
 generalize Rc.emB ⟨mk2, r2, n2, L2, s2, y2, md2, T2⟩ = b1 at *
 generalize Rc.baB d2 S2 = b2 at *
 generalize (decide (b = ⟨#[]⟩) && decide (t2 = ⟨#[]⟩)) = b3 at *
 generalize decide (u = 0) = b4 at *
 clear h hF
 cases b0 with
 | false =>
  obtain rfl : R = 140 := HE.out
  go_enter Tryz.func14, Tryz.ntmps14
  go_wp2_with fail
  refine (HW.out _ ?_).mono ?_
  ·exact (Gr.refl _).alloc
  rintro e4 w1 ⟨p1, q1, p2, q2, p3, q3, rfl, hg1⟩
  have G1 := (Gr.refl w).alloc.trans hg1
  have sz1 := G1.size
  clear hg1
  go_wp2
  go_ret
  exact ⟨rfl, G1.alloc⟩
 | true =>
  cases b1 with
  | false =>
   obtain rfl : R = 140 := HE.out
   go_enter Tryz.func14, Tryz.ntmps14
   go_wp2_with fail
   refine (HW.out _ ?_).mono ?_
   ·exact (Gr.refl _).alloc
   rintro e4 w1 ⟨p1, q1, p2, q2, p3, q3, rfl, hg1⟩
   have G1 := (Gr.refl w).alloc.trans hg1
   have sz1 := G1.size
   clear hg1
   go_wp2_with fail
   refine (H1.out _ _ _ _ _).mono ?_
   rintro e5 w2 ⟨rfl, hg2⟩
   have B2 := (Cs.new w1 _ _ _ rfl).gr hg2
   have G2 : Gr w w2 := G1.alloc.trans hg2
   clear hg2
   obtain ⟨c0, c1, c2, c3, c4, c5, c6, c7, c8, c9, c10, c11, c12, c13, clt⟩ := B2.c14
   go_wp2
   go_ret
   exact ⟨rfl, G2⟩
  | true =>
   cases b2 with
   | false =>
    obtain rfl : R = 140 := HE.out
    go_enter Tryz.func14, Tryz.ntmps14
    go_wp2_with fail
    refine (HW.out _ ?_).mono ?_
    ·exact (Gr.refl _).alloc
    rintro e4 w1 ⟨p1, q1, p2, q2, p3, q3, rfl, hg1⟩
    have G1 := (Gr.refl w).alloc.trans hg1
    have sz1 := G1.size
    clear hg1
    go_wp2_with fail
    refine (H1.out _ _ _ _ _).mono ?_
    rintro e5 w2 ⟨rfl, hg2⟩
    have B2 := (Cs.new w1 _ _ _ rfl).gr hg2
    have G2 : Gr w w2 := G1.alloc.trans hg2
    clear hg2
    obtain ⟨c0, c1, c2, c3, c4, c5, c6, c7, c8, c9, c10, c11, c12, c13, clt⟩ := B2.c14
    go_wp2_with fail
    refine (H2.out _ _ _).mono ?_
    rintro e6 w3 ⟨rfl, hg3⟩
    have B3 := B2.gr hg3
    have G3 : Gr w w3 := G2.trans hg3
    clear hg3 B2 clt c0 c1 c2 c3 c4 c5 c6 c7 c8 c9 c10 c11 c12 c13
    obtain ⟨c0, c1, c2, c3, c4, c5, c6, c7, c8, c9, c10, c11, c12, c13, clt⟩ := B3.c14
    go_wp2
    go_ret
    exact ⟨rfl, G3⟩
   | true =>
    cases b3 with
    | false =>
     obtain rfl : R = 140 := HE.out
     go_enter Tryz.func14, Tryz.ntmps14
     go_wp2_with fail
     refine (HW.out _ ?_).mono ?_
     ·exact (Gr.refl _).alloc
     rintro e4 w1 ⟨p1, q1, p2, q2, p3, q3, rfl, hg1⟩
     have G1 := (Gr.refl w).alloc.trans hg1
     have sz1 := G1.size
     clear hg1
     go_wp2_with fail
     refine (H1.out _ _ _ _ _).mono ?_
     rintro e5 w2 ⟨rfl, hg2⟩
     have B2 := (Cs.new w1 _ _ _ rfl).gr hg2
     have G2 : Gr w w2 := G1.alloc.trans hg2
     clear hg2
     obtain ⟨c0, c1, c2, c3, c4, c5, c6, c7, c8, c9, c10, c11, c12, c13, clt⟩ := B2.c14
     go_wp2_with fail
     refine (H2.out _ _ _).mono ?_
     rintro e6 w3 ⟨rfl, hg3⟩
     have B3 := B2.gr hg3
     have G3 : Gr w w3 := G2.trans hg3
     clear hg3 B2 clt c0 c1 c2 c3 c4 c5 c6 c7 c8 c9 c10 c11 c12 c13
     obtain ⟨c0, c1, c2, c3, c4, c5, c6, c7, c8, c9, c10, c11, c12, c13, clt⟩ := B3.c14
     go_wp2_with fail
     refine (H3.out _ _ ?_).mono ?_
     ·exact Cs.new _ _ _ _ rfl
     rintro e7 w4 ⟨rfl, hw4⟩; obtain rfl := hw4.symm
     have B4 := B3.alloc (o := .cells #[.string b, .string t2] 9)
     clear clt c0 c1 c2 c3 c4 c5 c6 c7 c8 c9 c10 c11 c12 c13
     obtain ⟨c0, c1, c2, c3, c4, c5, c6, c7, c8, c9, c10, c11, c12, c13, clt⟩ := B4.c14
     go_wp2
     go_ret
     exact ⟨rfl, G3.alloc⟩
    | true =>
     cases b4 with
     | false =>
      obtain rfl : R = 140 := HE.out
      go_enter Tryz.func14, Tryz.ntmps14
      go_wp2_with fail
      refine (HW.out _ ?_).mono ?_
      ·exact (Gr.refl _).alloc
      rintro e4 w1 ⟨p1, q1, p2, q2, p3, q3, rfl, hg1⟩
      have G1 := (Gr.refl w).alloc.trans hg1
      have sz1 := G1.size
      clear hg1
      go_wp2_with fail
      refine (H1.out _ _ _ _ _).mono ?_
      rintro e5 w2 ⟨rfl, hg2⟩
      have B2 := (Cs.new w1 _ _ _ rfl).gr hg2
      have G2 : Gr w w2 := G1.alloc.trans hg2
      clear hg2
      obtain ⟨c0, c1, c2, c3, c4, c5, c6, c7, c8, c9, c10, c11, c12, c13, clt⟩ := B2.c14
      go_wp2_with fail
      refine (H2.out _ _ _).mono ?_
      rintro e6 w3 ⟨rfl, hg3⟩
      have B3 := B2.gr hg3
      have G3 : Gr w w3 := G2.trans hg3
      clear hg3 B2 clt c0 c1 c2 c3 c4 c5 c6 c7 c8 c9 c10 c11 c12 c13
      obtain ⟨c0, c1, c2, c3, c4, c5, c6, c7, c8, c9, c10, c11, c12, c13, clt⟩ := B3.c14
      go_wp2_with fail
      refine (H3.out _ _ ?_).mono ?_
      ·exact Cs.new _ _ _ _ rfl
      rintro e7 w4 ⟨rfl, hw4⟩; obtain rfl := hw4.symm
      have B4 := B3.alloc (o := .cells #[.string b, .string t2] 9)
      clear clt c0 c1 c2 c3 c4 c5 c6 c7 c8 c9 c10 c11 c12 c13
      obtain ⟨c0, c1, c2, c3, c4, c5, c6, c7, c8, c9, c10, c11, c12, c13, clt⟩ := B4.c14
      go_wp2_with fail
      refine (H4.out _ _ ?_).mono ?_
      ·exact (World.cell?_alloc_at _ _ _ _ (by simp)).trans rfl
      rintro e8 w5 ⟨rfl, hw5⟩; obtain rfl := hw5.symm
      go_wp2
      go_ret
      exact ⟨rfl, G3.alloc.alloc⟩
     | true =>
      obtain rfl : R = 0 := HE.out
      go_enter Tryz.func14, Tryz.ntmps14
      go_wp2_with fail
      refine (HW.out _ ?_).mono ?_
      ·exact (Gr.refl _).alloc
      rintro e4 w1 ⟨p1, q1, p2, q2, p3, q3, rfl, hg1⟩
      have G1 := (Gr.refl w).alloc.trans hg1
      have sz1 := G1.size
      clear hg1
      go_wp2_with fail
      refine (H1.out _ _ _ _ _).mono ?_
      rintro e5 w2 ⟨rfl, hg2⟩
      have B2 := (Cs.new w1 _ _ _ rfl).gr hg2
      have G2 : Gr w w2 := G1.alloc.trans hg2
      clear hg2
      obtain ⟨c0, c1, c2, c3, c4, c5, c6, c7, c8, c9, c10, c11, c12, c13, clt⟩ := B2.c14
      go_wp2_with fail
      refine (H2.out _ _ _).mono ?_
      rintro e6 w3 ⟨rfl, hg3⟩
      have B3 := B2.gr hg3
      have G3 : Gr w w3 := G2.trans hg3
      clear hg3 B2 clt c0 c1 c2 c3 c4 c5 c6 c7 c8 c9 c10 c11 c12 c13
      obtain ⟨c0, c1, c2, c3, c4, c5, c6, c7, c8, c9, c10, c11, c12, c13, clt⟩ := B3.c14
      go_wp2_with fail
      refine (H3.out _ _ ?_).mono ?_
      ·exact Cs.new _ _ _ _ rfl
      rintro e7 w4 ⟨rfl, hw4⟩; obtain rfl := hw4.symm
      have B4 := B3.alloc (o := .cells #[.string b, .string t2] 9)
      clear clt c0 c1 c2 c3 c4 c5 c6 c7 c8 c9 c10 c11 c12 c13
      obtain ⟨c0, c1, c2, c3, c4, c5, c6, c7, c8, c9, c10, c11, c12, c13, clt⟩ := B4.c14
      go_wp2_with fail
      refine (H4.out _ _ ?_).mono ?_
      ·exact (World.cell?_alloc_at _ _ _ _ (by simp)).trans rfl
      rintro e8 w5 ⟨rfl, hw5⟩; obtain rfl := hw5.symm
      go_wp2
      go_ret
      exact ⟨rfl, G3.alloc.alloc⟩
end Go.Proofs.YthaadiclopoamaaGreatDoor
