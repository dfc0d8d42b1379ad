/- For every input the law RecordBack answers true: a record is read as it was laid, and what is read is laid as it stood. -/
import Derived.Test.YthaadiclopoamaaGreatDoorGBA
import Derived.Test.YthaadiclopoamaaGreatDoorGV
import Derived.Test.YthaadiclopoamaaGreatDoorGBW
import Derived.SevenTiedAt
set_option maxRecDepth 100000
set_option maxHeartbeats 8000000
namespace Go.Proofs.YthaadiclopoamaaGreatDoor
open Go.ChangeShapes Go.WideShapes Go.ChangeAt Go.RowKit
open Go.ChangeMaps (open_string shut_string)
open Df (Stp)
theorem back1 (k mk r n : Int) (L : List (Int × Int)) (s y : Int) (md : ByteArray) (T : List Stp) (a : ByteArray) (v : Int) (d : ByteArray) (S : List Stp) (t : ByteArray) (a1 : Option Addr) (e1 : Nat) (a2 : Option Addr) (e2 : Nat) (a3 : Option Addr) (e3 : Nat) (w : World) (k' mk' r' n' : Int) (L' : List (Int × Int)) (s' y' : Int) (md' : ByteArray) (T' : List Stp) (aa : ByteArray) (v' : Int) (d' : ByteArray) (S' : List Stp) (t' : ByteArray) (u : ByteArray) (E1 : List UInt8) (h6 : ¬ (60000 : Int) < (u.size : Int)) (HA : Hid (∀ w', Gr w w' -> Calls Tryz.prog 9 #[] w' fun e w2 => e = .returned (.bool true) /\ Gr w' w2)) (HW : Hid (∀ w', Gr w w' -> Calls Tryz.prog 8 #[.agg #[.int .i64 k, .int .i64 mk, .int .i64 r, .int .i64 n, .slice a1 L.length e1, .int .i64 s, .int .i64 y, .string md, .slice a2 T.length e2, .string a, .int .i64 v, .string d, .slice a3 S.length e3, .string t]] w' fun e w2 => e = .returned (.bool true) /\ Gr w' w2)) (H1 : Hid (∀ w', Gr w w' -> Calls Tryz.prog 16 #[.agg #[.int .i64 k, .int .i64 mk, .int .i64 r, .int .i64 n, .slice a1 L.length e1, .int .i64 s, .int .i64 y, .string md, .slice a2 T.length e2, .string a, .int .i64 v, .string d, .slice a3 S.length e3, .string t]] w' fun e w2 => e = .returned (.tuple #[.string ⟨E1.toArray⟩, .int .i64 140]) /\ Gr w' w2)) (H4 : Hid (∀ w', Gr w w' -> Calls Tryz.prog 18 #[.string u] w' fun e w2 => ∃ a1 c1 a2 c2 a3 c3, e = .returned (.tuple #[.agg #[.int .i64 k', .int .i64 mk', .int .i64 r', .int .i64 n', .slice a1 L'.length c1, .int .i64 s', .int .i64 y', .string md', .slice a2 T'.length c2, .string aa, .int .i64 v', .string d', .slice a3 S'.length c3, .string t'], .int .i64 0]) /\ RcIn w2 (⟨k', ⟨mk', r', n', L', s', y', md', T'⟩, aa, v', d', S', t'⟩ : Rc) a1 c1 a2 c2 a3 c3 /\ Gr w' w2)) (H5 : Hid (∀ (w' : World) (p1 : Option Addr) (q1 : Nat) (p2 : Option Addr) (q2 : Nat) (p3 : Option Addr) (q3 : Nat), Gr w w' -> RcIn w' (⟨k', ⟨mk', r', n', L', s', y', md', T'⟩, aa, v', d', S', t'⟩ : Rc) p1 q1 p2 q2 p3 q3 -> Calls Tryz.prog 16 #[.agg #[.int .i64 k', .int .i64 mk', .int .i64 r', .int .i64 n', .slice p1 L'.length q1, .int .i64 s', .int .i64 y', .string md', .slice p2 T'.length q2, .string aa, .int .i64 v', .string d', .slice p3 S'.length q3, .string t']] w' fun e w2 => e = .returned (.tuple #[.string u, .int .i64 0]) /\ Gr w' w2)) (H6 : Hid (∀ (w' : World) (p1 : Option Addr) (q1 : Nat) (p2 : Option Addr) (q2 : Nat) (p3 : Option Addr) (q3 : Nat), Gr w w' -> RcIn w' (⟨k', ⟨mk', r', n', L', s', y', md', T'⟩, aa, v', d', S', t'⟩ : Rc) p1 q1 p2 q2 p3 q3 -> Calls Tryz.prog 14 #[.agg #[.int .i64 k', .int .i64 mk', .int .i64 r', .int .i64 n', .slice p1 L'.length q1, .int .i64 s', .int .i64 y', .string md', .slice p2 T'.length q2, .string aa, .int .i64 v', .string d', .slice p3 S'.length q3, .string t']] w' fun e w2 => e = .returned (.int .i64 0) /\ Gr w' w2)) :
  Calls Tryz.prog 6 #[.agg #[.int .i64 k, .int .i64 mk, .int .i64 r, .int .i64 n, .slice a1 L.length e1, .int .i64 s, .int .i64 y, .string md, .slice a2 T.length e2, .string a, .int .i64 v, .string d, .slice a3 S.length e3, .string t], .string u] w fun e w' => e = .returned (.bool true) /\ Gr w w' := by
 go_enter Tryz.func6, Tryz.ntmps6
 go_wp2_with fail
 refine (HW.out _ ?_).mono ?_
 ·exact (Gr.refl _).alloc
 rintro f0 w0 ⟨rfl, hg0⟩
 have G0 := (Gr.refl w).alloc.trans hg0
 have B0 := (Cs.new w _ _ _ rfl).gr hg0
 clear hg0
 obtain ⟨c0, c1, c2, c3, c4, c5, c6, c7, c8, c9, c10, c11, c12, c13, clt⟩ := B0.c14
 go_wp2_with fail
 refine (H1.out _ G0).mono ?_
 rintro f1 w1 ⟨rfl, hg1⟩
 have G1 : Gr w w1 := G0.trans hg1
 have B1 := B0.gr hg1
 clear hg1 B0
 clear c0 c1 c2 c3 c4 c5 c6 c7 c8 c9 c10 c11 c12 c13 clt
 obtain ⟨c0, c1, c2, c3, c4, c5, c6, c7, c8, c9, c10, c11, c12, c13, clt⟩ := B1.c14
 clear B1
 clear c0 c1 c2 c3 c4 c5 c6 c7 c8 c9 c10 c11 c12 c13 clt
 go_wp2_with fail
 refine (H4.out _ G1).mono ?_
 rintro e5 v1 ⟨p1, q1, p2, q2, p3, q3, rfl, j1, hv1⟩
 have V1 : Gr w v1 := G1.trans hv1
 have J1 := Lib.hid j1
 clear j1 hv1
 go_wp2_with fail
 refine (H5.out _ _ _ _ _ _ _ V1.alloc (J1.out.gr (Gr.refl _).alloc)).mono ?_
 rintro e6 v2 ⟨rfl, hv2⟩
 have V2 : Gr w v2 := V1.alloc.trans hv2
 have J2 := Lib.hid (J1.out.gr ((Gr.refl _).alloc.trans hv2))
 have Y2 := (Cs.new v1 _ _ _ rfl).gr hv2
 clear hv2
 obtain ⟨x0', x1', x2', x3', x4', x5', x6', x7', x8', x9', x10', x11', x12', x13', xlt⟩ := Y2.c14
 go_wp2_with fail
 refine (H6.out _ _ _ _ _ _ _ V2 J2.out).mono ?_
 rintro e7 v3 ⟨rfl, hv3⟩
 have V3 : Gr w v3 := V2.trans hv3
 go_wp2_with fail
 refine (HA.out _ V3).mono ?_
 rintro e8 v4 ⟨rfl, hv4⟩
 go_wp2
 go_ret
 exact ⟨rfl, V3.trans hv4⟩

theorem back2 (k mk r n : Int) (L : List (Int × Int)) (s y : Int) (md : ByteArray) (T : List Stp) (a : ByteArray) (v : Int) (d : ByteArray) (S : List Stp) (t : ByteArray) (a1 : Option Addr) (e1 : Nat) (a2 : Option Addr) (e2 : Nat) (a3 : Option Addr) (e3 : Nat) (w : World) (k' mk' r' n' : Int) (L' : List (Int × Int)) (s' y' : Int) (md' : ByteArray) (T' : List Stp) (aa : ByteArray) (v' : Int) (d' : ByteArray) (S' : List Stp) (t' : ByteArray) (u : ByteArray) (X : Rc) (E1 : List UInt8) (h6 : ¬ (60000 : Int) < (u.size : Int)) (HA : Hid (∀ w', Gr w w' -> Calls Tryz.prog 9 #[] w' fun e w2 => e = .returned (.bool true) /\ Gr w' w2)) (HW : Hid (∀ w', Gr w w' -> Calls Tryz.prog 8 #[.agg #[.int .i64 k, .int .i64 mk, .int .i64 r, .int .i64 n, .slice a1 L.length e1, .int .i64 s, .int .i64 y, .string md, .slice a2 T.length e2, .string a, .int .i64 v, .string d, .slice a3 S.length e3, .string t]] w' fun e w2 => e = .returned (.bool true) /\ Gr w' w2)) (H1 : Hid (∀ w', Gr w w' -> Calls Tryz.prog 16 #[.agg #[.int .i64 k, .int .i64 mk, .int .i64 r, .int .i64 n, .slice a1 L.length e1, .int .i64 s, .int .i64 y, .string md, .slice a2 T.length e2, .string a, .int .i64 v, .string d, .slice a3 S.length e3, .string t]] w' fun e w2 => e = .returned (.tuple #[.string ⟨E1.toArray⟩, .int .i64 0]) /\ Gr w' w2)) (H2q : Hid (∀ w', Gr w w' -> Calls Tryz.prog 18 #[.string ⟨E1.toArray⟩] w' fun e w2 => ∃ b1 f1 b2 f2 b3 f3, e = .returned (.tuple #[.agg #[.int .i64 k, .int .i64 mk, .int .i64 r, .int .i64 n, .slice b1 L.length f1, .int .i64 s, .int .i64 y, .string md, .slice b2 T.length f2, .string a, .int .i64 v, .string d, .slice b3 S.length f3, .string t], .int .i64 0]) /\ RcIn w2 X b1 f1 b2 f2 b3 f3 /\ Gr w' w2)) (H3 : Hid (∀ (w' : World) (b1 : Option Addr) (f1 : Nat) (b2 : Option Addr) (f2 : Nat) (b3 : Option Addr) (f3 : Nat), RcIn w' X b1 f1 b2 f2 b3 f3 -> RcIn w' X a1 e1 a2 e2 a3 e3 -> Calls Tryz.prog 20 #[.agg #[.int .i64 k, .int .i64 mk, .int .i64 r, .int .i64 n, .slice b1 L.length f1, .int .i64 s, .int .i64 y, .string md, .slice b2 T.length f2, .string a, .int .i64 v, .string d, .slice b3 S.length f3, .string t], .agg #[.int .i64 k, .int .i64 mk, .int .i64 r, .int .i64 n, .slice a1 L.length e1, .int .i64 s, .int .i64 y, .string md, .slice a2 T.length e2, .string a, .int .i64 v, .string d, .slice a3 S.length e3, .string t]] w' fun e w2 => e = .returned (.bool true) /\ Gr w' w2)) (HI : Hid (∀ w', Gr w w' -> RcIn w' X a1 e1 a2 e2 a3 e3)) (H4 : Hid (∀ w', Gr w w' -> Calls Tryz.prog 18 #[.string u] w' fun e w2 => ∃ a1 c1 a2 c2 a3 c3, e = .returned (.tuple #[.agg #[.int .i64 k', .int .i64 mk', .int .i64 r', .int .i64 n', .slice a1 L'.length c1, .int .i64 s', .int .i64 y', .string md', .slice a2 T'.length c2, .string aa, .int .i64 v', .string d', .slice a3 S'.length c3, .string t'], .int .i64 0]) /\ RcIn w2 (⟨k', ⟨mk', r', n', L', s', y', md', T'⟩, aa, v', d', S', t'⟩ : Rc) a1 c1 a2 c2 a3 c3 /\ Gr w' w2)) (H5 : Hid (∀ (w' : World) (p1 : Option Addr) (q1 : Nat) (p2 : Option Addr) (q2 : Nat) (p3 : Option Addr) (q3 : Nat), Gr w w' -> RcIn w' (⟨k', ⟨mk', r', n', L', s', y', md', T'⟩, aa, v', d', S', t'⟩ : Rc) p1 q1 p2 q2 p3 q3 -> Calls Tryz.prog 16 #[.agg #[.int .i64 k', .int .i64 mk', .int .i64 r', .int .i64 n', .slice p1 L'.length q1, .int .i64 s', .int .i64 y', .string md', .slice p2 T'.length q2, .string aa, .int .i64 v', .string d', .slice p3 S'.length q3, .string t']] w' fun e w2 => e = .returned (.tuple #[.string u, .int .i64 0]) /\ Gr w' w2)) (H6 : Hid (∀ (w' : World) (p1 : Option Addr) (q1 : Nat) (p2 : Option Addr) (q2 : Nat) (p3 : Option Addr) (q3 : Nat), Gr w w' -> RcIn w' (⟨k', ⟨mk', r', n', L', s', y', md', T'⟩, aa, v', d', S', t'⟩ : Rc) p1 q1 p2 q2 p3 q3 -> Calls Tryz.prog 14 #[.agg #[.int .i64 k', .int .i64 mk', .int .i64 r', .int .i64 n', .slice p1 L'.length q1, .int .i64 s', .int .i64 y', .string md', .slice p2 T'.length q2, .string aa, .int .i64 v', .string d', .slice p3 S'.length q3, .string t']] w' fun e w2 => e = .returned (.int .i64 0) /\ Gr w' w2)) :
  Calls Tryz.prog 6 #[.agg #[.int .i64 k, .int .i64 mk, .int .i64 r, .int .i64 n, .slice a1 L.length e1, .int .i64 s, .int .i64 y, .string md, .slice a2 T.length e2, .string a, .int .i64 v, .string d, .slice a3 S.length e3, .string t], .string u] w fun e w' => e = .returned (.bool true) /\ Gr w w' := by
 go_enter Tryz.func6, Tryz.ntmps6
 go_wp2_with fail
 refine (HW.out _ ?_).mono ?_
 ·exact (Gr.refl _).alloc
 rintro f0 w0 ⟨rfl, hg0⟩
 have G0 := (Gr.refl w).alloc.trans hg0
 have B0 := (Cs.new w _ _ _ rfl).gr hg0
 clear hg0
 obtain ⟨c0, c1, c2, c3, c4, c5, c6, c7, c8, c9, c10, c11, c12, c13, clt⟩ := B0.c14
 go_wp2_with fail
 refine (H1.out _ G0).mono ?_
 rintro f1 w1 ⟨rfl, hg1⟩
 have G1 : Gr w w1 := G0.trans hg1
 have B1 := B0.gr hg1
 clear hg1 B0
 clear c0 c1 c2 c3 c4 c5 c6 c7 c8 c9 c10 c11 c12 c13 clt
 obtain ⟨c0, c1, c2, c3, c4, c5, c6, c7, c8, c9, c10, c11, c12, c13, clt⟩ := B1.c14
 go_wp2_with fail
 refine (H2q.out _ G1).mono ?_
 rintro f2 w2 ⟨b1, f1, b2, f2, b3, f3, rfl, i2, hg2⟩
 have G2 : Gr w w2 := G1.trans hg2
 have I2 := Lib.hid i2
 have B2 := B1.gr hg2
 clear i2 hg2 B1
 clear c0 c1 c2 c3 c4 c5 c6 c7 c8 c9 c10 c11 c12 c13 clt
 obtain ⟨c0, c1, c2, c3, c4, c5, c6, c7, c8, c9, c10, c11, c12, c13, clt⟩ := B2.c14
 go_wp2_with fail
 refine (H3.out _ _ _ _ _ _ _ (I2.out.gr (Gr.refl _).alloc) (HI.out _ G2.alloc)).mono ?_
 rintro f3 w3 ⟨rfl, hg3⟩
 have G3 : Gr w w3 := G2.alloc.trans hg3
 clear hg3 B2
 clear c0 c1 c2 c3 c4 c5 c6 c7 c8 c9 c10 c11 c12 c13 clt
 go_wp2_with fail
 refine (H4.out _ G3).mono ?_
 rintro e5 v1 ⟨p1, q1, p2, q2, p3, q3, rfl, j1, hv1⟩
 have V1 : Gr w v1 := G3.trans hv1
 have J1 := Lib.hid j1
 clear j1 hv1
 go_wp2_with fail
 refine (H5.out _ _ _ _ _ _ _ V1.alloc (J1.out.gr (Gr.refl _).alloc)).mono ?_
 rintro e6 v2 ⟨rfl, hv2⟩
 have V2 : Gr w v2 := V1.alloc.trans hv2
 have J2 := Lib.hid (J1.out.gr ((Gr.refl _).alloc.trans hv2))
 have Y2 := (Cs.new v1 _ _ _ rfl).gr hv2
 clear hv2
 obtain ⟨x0', x1', x2', x3', x4', x5', x6', x7', x8', x9', x10', x11', x12', x13', xlt⟩ := Y2.c14
 go_wp2_with fail
 refine (H6.out _ _ _ _ _ _ _ V2 J2.out).mono ?_
 rintro e7 v3 ⟨rfl, hv3⟩
 have V3 : Gr w v3 := V2.trans hv3
 go_wp2_with fail
 refine (HA.out _ V3).mono ?_
 rintro e8 v4 ⟨rfl, hv4⟩
 go_wp2
 go_ret
 exact ⟨rfl, V3.trans hv4⟩

theorem back3 (k mk r n : Int) (L : List (Int × Int)) (s y : Int) (md : ByteArray) (T : List Stp) (a : ByteArray) (v : Int) (d : ByteArray) (S : List Stp) (t : ByteArray) (a1 : Option Addr) (e1 : Nat) (a2 : Option Addr) (e2 : Nat) (a3 : Option Addr) (e3 : Nat) (w : World) (u : ByteArray) (E1 : List UInt8) (h6 : ¬ (60000 : Int) < (u.size : Int)) (HA : Hid (∀ w', Gr w w' -> Calls Tryz.prog 9 #[] w' fun e w2 => e = .returned (.bool true) /\ Gr w' w2)) (HW : Hid (∀ w', Gr w w' -> Calls Tryz.prog 8 #[.agg #[.int .i64 k, .int .i64 mk, .int .i64 r, .int .i64 n, .slice a1 L.length e1, .int .i64 s, .int .i64 y, .string md, .slice a2 T.length e2, .string a, .int .i64 v, .string d, .slice a3 S.length e3, .string t]] w' fun e w2 => e = .returned (.bool true) /\ Gr w' w2)) (H1 : Hid (∀ w', Gr w w' -> Calls Tryz.prog 16 #[.agg #[.int .i64 k, .int .i64 mk, .int .i64 r, .int .i64 n, .slice a1 L.length e1, .int .i64 s, .int .i64 y, .string md, .slice a2 T.length e2, .string a, .int .i64 v, .string d, .slice a3 S.length e3, .string t]] w' fun e w2 => e = .returned (.tuple #[.string ⟨E1.toArray⟩, .int .i64 140]) /\ Gr w' w2)) (H4 : Hid (∀ w', Gr w w' -> Calls Tryz.prog 18 #[.string u] w' fun e w2 => ∃ a1 c1 a2 c2 a3 c3, e = .returned (.tuple #[.agg #[.int .i64 0, .int .i64 0, .int .i64 0, .int .i64 0, .slice a1 0 c1, .int .i64 0, .int .i64 0, .string ⟨#[]⟩, .slice a2 0 c2, .string ⟨#[]⟩, .int .i64 0, .string ⟨#[]⟩, .slice a3 0 c3, .string ⟨#[]⟩], .int .i64 140]) /\ RcIn w2 Rc.zR a1 c1 a2 c2 a3 c3 /\ Gr w' w2)) (H5 : Hid (∀ (w' : World) (p1 : Option Addr) (q1 : Nat) (p2 : Option Addr) (q2 : Nat) (p3 : Option Addr) (q3 : Nat), RcIn w' Rc.zR p1 q1 p2 q2 p3 q3 -> Calls Tryz.prog 20 #[.agg #[.int .i64 0, .int .i64 0, .int .i64 0, .int .i64 0, .slice p1 0 q1, .int .i64 0, .int .i64 0, .string ⟨#[]⟩, .slice p2 0 q2, .string ⟨#[]⟩, .int .i64 0, .string ⟨#[]⟩, .slice p3 0 q3, .string ⟨#[]⟩], .agg #[.int .i64 0, .int .i64 0, .int .i64 0, .int .i64 0, .slice none 0 0, .int .i64 0, .int .i64 0, .string ⟨#[]⟩, .slice none 0 0, .string ⟨#[]⟩, .int .i64 0, .string ⟨#[]⟩, .slice none 0 0, .string ⟨#[]⟩]] w' fun e w2 => e = .returned (.bool true) /\ Gr w' w2)) :
  Calls Tryz.prog 6 #[.agg #[.int .i64 k, .int .i64 mk, .int .i64 r, .int .i64 n, .slice a1 L.length e1, .int .i64 s, .int .i64 y, .string md, .slice a2 T.length e2, .string a, .int .i64 v, .string d, .slice a3 S.length e3, .string t], .string u] w fun e w' => e = .returned (.bool true) /\ Gr w w' := by
 go_enter Tryz.func6, Tryz.ntmps6
 go_wp2_with fail
 refine (HW.out _ ?_).mono ?_
 ·exact (Gr.refl _).alloc
 rintro f0 w0 ⟨rfl, hg0⟩
 have G0 := (Gr.refl w).alloc.trans hg0
 have B0 := (Cs.new w _ _ _ rfl).gr hg0
 clear hg0
 obtain ⟨c0, c1, c2, c3, c4, c5, c6, c7, c8, c9, c10, c11, c12, c13, clt⟩ := B0.c14
 go_wp2_with fail
 refine (H1.out _ G0).mono ?_
 rintro f1 w1 ⟨rfl, hg1⟩
 have G1 : Gr w w1 := G0.trans hg1
 have B1 := B0.gr hg1
 clear hg1 B0
 clear c0 c1 c2 c3 c4 c5 c6 c7 c8 c9 c10 c11 c12 c13 clt
 obtain ⟨c0, c1, c2, c3, c4, c5, c6, c7, c8, c9, c10, c11, c12, c13, clt⟩ := B1.c14
 clear B1
 clear c0 c1 c2 c3 c4 c5 c6 c7 c8 c9 c10 c11 c12 c13 clt
 go_wp2_with fail
 refine (H4.out _ G1).mono ?_
 rintro e5 v1 ⟨p1, q1, p2, q2, p3, q3, rfl, j1, hv1⟩
 have V1 : Gr w v1 := G1.trans hv1
 have J1 := Lib.hid j1
 clear j1 hv1
 go_wp2_with fail
 refine (H5.out _ _ _ _ _ _ _ (J1.out.gr (Gr.refl _).alloc)).mono ?_
 rintro e6 v2 ⟨rfl, hv2⟩
 have V2 : Gr w v2 := V1.alloc.trans hv2
 go_wp2_with fail
 refine (HA.out _ V2).mono ?_
 rintro e8 v4 ⟨rfl, hv4⟩
 go_wp2
 go_ret
 exact ⟨rfl, V2.trans hv4⟩

theorem back4 (k mk r n : Int) (L : List (Int × Int)) (s y : Int) (md : ByteArray) (T : List Stp) (a : ByteArray) (v : Int) (d : ByteArray) (S : List Stp) (t : ByteArray) (a1 : Option Addr) (e1 : Nat) (a2 : Option Addr) (e2 : Nat) (a3 : Option Addr) (e3 : Nat) (w : World) (u : ByteArray) (X : Rc) (E1 : List UInt8) (h6 : ¬ (60000 : Int) < (u.size : Int)) (HA : Hid (∀ w', Gr w w' -> Calls Tryz.prog 9 #[] w' fun e w2 => e = .returned (.bool true) /\ Gr w' w2)) (HW : Hid (∀ w', Gr w w' -> Calls Tryz.prog 8 #[.agg #[.int .i64 k, .int .i64 mk, .int .i64 r, .int .i64 n, .slice a1 L.length e1, .int .i64 s, .int .i64 y, .string md, .slice a2 T.length e2, .string a, .int .i64 v, .string d, .slice a3 S.length e3, .string t]] w' fun e w2 => e = .returned (.bool true) /\ Gr w' w2)) (H1 : Hid (∀ w', Gr w w' -> Calls Tryz.prog 16 #[.agg #[.int .i64 k, .int .i64 mk, .int .i64 r, .int .i64 n, .slice a1 L.length e1, .int .i64 s, .int .i64 y, .string md, .slice a2 T.length e2, .string a, .int .i64 v, .string d, .slice a3 S.length e3, .string t]] w' fun e w2 => e = .returned (.tuple #[.string ⟨E1.toArray⟩, .int .i64 0]) /\ Gr w' w2)) (H2q : Hid (∀ w', Gr w w' -> Calls Tryz.prog 18 #[.string ⟨E1.toArray⟩] w' fun e w2 => ∃ b1 f1 b2 f2 b3 f3, e = .returned (.tuple #[.agg #[.int .i64 k, .int .i64 mk, .int .i64 r, .int .i64 n, .slice b1 L.length f1, .int .i64 s, .int .i64 y, .string md, .slice b2 T.length f2, .string a, .int .i64 v, .string d, .slice b3 S.length f3, .string t], .int .i64 0]) /\ RcIn w2 X b1 f1 b2 f2 b3 f3 /\ Gr w' w2)) (H3 : Hid (∀ (w' : World) (b1 : Option Addr) (f1 : Nat) (b2 : Option Addr) (f2 : Nat) (b3 : Option Addr) (f3 : Nat), RcIn w' X b1 f1 b2 f2 b3 f3 -> RcIn w' X a1 e1 a2 e2 a3 e3 -> Calls Tryz.prog 20 #[.agg #[.int .i64 k, .int .i64 mk, .int .i64 r, .int .i64 n, .slice b1 L.length f1, .int .i64 s, .int .i64 y, .string md, .slice b2 T.length f2, .string a, .int .i64 v, .string d, .slice b3 S.length f3, .string t], .agg #[.int .i64 k, .int .i64 mk, .int .i64 r, .int .i64 n, .slice a1 L.length e1, .int .i64 s, .int .i64 y, .string md, .slice a2 T.length e2, .string a, .int .i64 v, .string d, .slice a3 S.length e3, .string t]] w' fun e w2 => e = .returned (.bool true) /\ Gr w' w2)) (HI : Hid (∀ w', Gr w w' -> RcIn w' X a1 e1 a2 e2 a3 e3)) (H4 : Hid (∀ w', Gr w w' -> Calls Tryz.prog 18 #[.string u] w' fun e w2 => ∃ a1 c1 a2 c2 a3 c3, e = .returned (.tuple #[.agg #[.int .i64 0, .int .i64 0, .int .i64 0, .int .i64 0, .slice a1 0 c1, .int .i64 0, .int .i64 0, .string ⟨#[]⟩, .slice a2 0 c2, .string ⟨#[]⟩, .int .i64 0, .string ⟨#[]⟩, .slice a3 0 c3, .string ⟨#[]⟩], .int .i64 140]) /\ RcIn w2 Rc.zR a1 c1 a2 c2 a3 c3 /\ Gr w' w2)) (H5 : Hid (∀ (w' : World) (p1 : Option Addr) (q1 : Nat) (p2 : Option Addr) (q2 : Nat) (p3 : Option Addr) (q3 : Nat), RcIn w' Rc.zR p1 q1 p2 q2 p3 q3 -> Calls Tryz.prog 20 #[.agg #[.int .i64 0, .int .i64 0, .int .i64 0, .int .i64 0, .slice p1 0 q1, .int .i64 0, .int .i64 0, .string ⟨#[]⟩, .slice p2 0 q2, .string ⟨#[]⟩, .int .i64 0, .string ⟨#[]⟩, .slice p3 0 q3, .string ⟨#[]⟩], .agg #[.int .i64 0, .int .i64 0, .int .i64 0, .int .i64 0, .slice none 0 0, .int .i64 0, .int .i64 0, .string ⟨#[]⟩, .slice none 0 0, .string ⟨#[]⟩, .int .i64 0, .string ⟨#[]⟩, .slice none 0 0, .string ⟨#[]⟩]] w' fun e w2 => e = .returned (.bool true) /\ Gr w' w2)) :
  Calls Tryz.prog 6 #[.agg #[.int .i64 k, .int .i64 mk, .int .i64 r, .int .i64 n, .slice a1 L.length e1, .int .i64 s, .int .i64 y, .string md, .slice a2 T.length e2, .string a, .int .i64 v, .string d, .slice a3 S.length e3, .string t], .string u] w fun e w' => e = .returned (.bool true) /\ Gr w w' := by
 go_enter Tryz.func6, Tryz.ntmps6
 go_wp2_with fail
 refine (HW.out _ ?_).mono ?_
 ·exact (Gr.refl _).alloc
 rintro f0 w0 ⟨rfl, hg0⟩
 have G0 := (Gr.refl w).alloc.trans hg0
 have B0 := (Cs.new w _ _ _ rfl).gr hg0
 clear hg0
 obtain ⟨c0, c1, c2, c3, c4, c5, c6, c7, c8, c9, c10, c11, c12, c13, clt⟩ := B0.c14
 go_wp2_with fail
 refine (H1.out _ G0).mono ?_
 rintro f1 w1 ⟨rfl, hg1⟩
 have G1 : Gr w w1 := G0.trans hg1
 have B1 := B0.gr hg1
 clear hg1 B0
 clear c0 c1 c2 c3 c4 c5 c6 c7 c8 c9 c10 c11 c12 c13 clt
 obtain ⟨c0, c1, c2, c3, c4, c5, c6, c7, c8, c9, c10, c11, c12, c13, clt⟩ := B1.c14
 go_wp2_with fail
 refine (H2q.out _ G1).mono ?_
 rintro f2 w2 ⟨b1, f1, b2, f2, b3, f3, rfl, i2, hg2⟩
 have G2 : Gr w w2 := G1.trans hg2
 have I2 := Lib.hid i2
 have B2 := B1.gr hg2
 clear i2 hg2 B1
 clear c0 c1 c2 c3 c4 c5 c6 c7 c8 c9 c10 c11 c12 c13 clt
 obtain ⟨c0, c1, c2, c3, c4, c5, c6, c7, c8, c9, c10, c11, c12, c13, clt⟩ := B2.c14
 go_wp2_with fail
 refine (H3.out _ _ _ _ _ _ _ (I2.out.gr (Gr.refl _).alloc) (HI.out _ G2.alloc)).mono ?_
 rintro f3 w3 ⟨rfl, hg3⟩
 have G3 : Gr w w3 := G2.alloc.trans hg3
 clear hg3 B2
 clear c0 c1 c2 c3 c4 c5 c6 c7 c8 c9 c10 c11 c12 c13 clt
 go_wp2_with fail
 refine (H4.out _ G3).mono ?_
 rintro e5 v1 ⟨p1, q1, p2, q2, p3, q3, rfl, j1, hv1⟩
 have V1 : Gr w v1 := G3.trans hv1
 have J1 := Lib.hid j1
 clear j1 hv1
 go_wp2_with fail
 refine (H5.out _ _ _ _ _ _ _ (J1.out.gr (Gr.refl _).alloc)).mono ?_
 rintro e6 v2 ⟨rfl, hv2⟩
 have V2 : Gr w v2 := V1.alloc.trans hv2
 go_wp2_with fail
 refine (HA.out _ V2).mono ?_
 rintro e8 v4 ⟨rfl, hv4⟩
 go_wp2
 go_ret
 exact ⟨rfl, V2.trans hv4⟩
theorem recordBack_walk (k mk r n : Int) (L : List (Int × Int)) (s y : Int) (md : ByteArray) (T : List Stp) (a : ByteArray) (v : Int) (d : ByteArray) (S : List Stp) (t : ByteArray) (a1 : Option Addr) (e1 : Nat) (a2 : Option Addr) (e2 : Nat) (a3 : Option Addr) (e3 : Nat) (w : World) (u : ByteArray) (he : EnvR w) (h : RcIn w (⟨k, ⟨mk, r, n, L, s, y, md, T⟩, a, v, d, S, t⟩ : Rc) a1 e1 a2 e2 a3 e3) (hu : u.size <= 140737488355328) :
  Calls Tryz.prog 6 #[.agg #[.int .i64 k, .int .i64 mk, .int .i64 r, .int .i64 n, .slice a1 L.length e1, .int .i64 s, .int .i64 y, .string md, .slice a2 T.length e2, .string a, .int .i64 v, .string d, .slice a3 S.length e3, .string t], .string u] w fun e w' => e = .returned (.bool true) /\ Gr w w' := by
 have HA : Hid (∀ w', Gr w w' -> Calls Tryz.prog 9 #[] w' fun e w2 => e = .returned (.bool true) /\ Gr w' w2) := fun w' g => awake_any w' (he.gr g)
 have HW : Hid (∀ w', Gr w w' -> Calls Tryz.prog 8 #[.agg #[.int .i64 k, .int .i64 mk, .int .i64 r, .int .i64 n, .slice a1 L.length e1, .int .i64 s, .int .i64 y, .string md, .slice a2 T.length e2, .string a, .int .i64 v, .string d, .slice a3 S.length e3, .string t]] w' fun e w2 => e = .returned (.bool (fewB (⟨k, ⟨mk, r, n, L, s, y, md, T⟩, a, v, d, S, t⟩ : Rc))) /\ Gr w' w2) := fun w' _ => few_any k mk r n L s y md T a v d S t a1 e1 a2 e2 a3 e3 w'
 cases hf : fewB (⟨k, ⟨mk, r, n, L, s, y, md, T⟩, a, v, d, S, t⟩ : Rc) with
 | false =>
  rw [hf] at HW
  clear he h hf hu
  go_enter Tryz.func6, Tryz.ntmps6
  go_wp2_with fail
  refine (HW.out _ ?_).mono ?_
  ·exact (by repeat(first|exact Gr.r _|refine Gr.a ?_|refine Gr.d ?_|refine Gr.t ?_ (by assumption)))
  rintro f1 w1 ⟨rfl, hg1⟩
  have G1 : Gr w w1 := (by repeat(first|exact Gr.r _|refine Gr.a ?_|refine Gr.d ?_|refine Gr.t ?_ (by assumption)))
  go_wp2_with fail
  refine (HA.out _ G1).mono ?_
  rintro f2 w2 ⟨rfl, hg2⟩
  go_wp2
  go_ret
  exact ⟨rfl, G1.trans hg2⟩
 | true =>
  rw [hf] at HW
  by_cases h6 : (60000 : Int) < (u.size : Int)
  ·clear he h hf hu
   go_enter Tryz.func6, Tryz.ntmps6
   go_wp2_with fail
   refine (HW.out _ ?_).mono ?_
   ·exact (by repeat(first|exact Gr.r _|refine Gr.a ?_|refine Gr.d ?_|refine Gr.t ?_ (by assumption)))
   rintro f1 w1 ⟨rfl, hg1⟩
   have G1 : Gr w w1 := (by repeat(first|exact Gr.r _|refine Gr.a ?_|refine Gr.d ?_|refine Gr.t ?_ (by assumption)))
   go_wp2_with fail
   refine (HA.out _ G1).mono ?_
   rintro f2 w2 ⟨rfl, hg2⟩
   go_wp2
   go_ret
   exact ⟨rfl, G1.trans hg2⟩
  have H1 : Hid (∀ w', Gr w w' -> Calls Tryz.prog 16 #[.agg #[.int .i64 k, .int .i64 mk, .int .i64 r, .int .i64 n, .slice a1 L.length e1, .int .i64 s, .int .i64 y, .string md, .slice a2 T.length e2, .string a, .int .i64 v, .string d, .slice a3 S.length e3, .string t]] w' fun e w2 => e = .returned (.tuple #[.string ⟨(Rc.encL (⟨k, ⟨mk, r, n, L, s, y, md, T⟩, a, v, d, S, t⟩ : Rc)).toArray⟩, .int .i64 (Rc.rcE (⟨k, ⟨mk, r, n, L, s, y, md, T⟩, a, v, d, S, t⟩ : Rc))]) /\ Gr w' w2) := fun w' g => encR_any k mk r n L s y md T a v d S t a1 e1 a2 e2 a3 e3 w' (h.gr g) (he.frm.gr g) (he.env.gr g)
  have HE : Hid (Rc.rcE (⟨k, ⟨mk, r, n, L, s, y, md, T⟩, a, v, d, S, t⟩ : Rc) = if Rc.rcB (⟨k, ⟨mk, r, n, L, s, y, md, T⟩, a, v, d, S, t⟩ : Rc) = true then 0 else 140) := rfl
  have hsm : Rc.rcB (⟨k, ⟨mk, r, n, L, s, y, md, T⟩, a, v, d, S, t⟩ : Rc) = true -> (Rc.encL (⟨k, ⟨mk, r, n, L, s, y, md, T⟩, a, v, d, S, t⟩ : Rc)).length <= 30000 := fun q => by unfold Rc.encL; rw [if_pos q]; exact Rc.bd_len q
  have H2 : Hid (Rc.rcB (⟨k, ⟨mk, r, n, L, s, y, md, T⟩, a, v, d, S, t⟩ : Rc) = true -> ∀ w', Gr w w' -> Calls Tryz.prog 18 #[.string ⟨(Rc.encL (⟨k, ⟨mk, r, n, L, s, y, md, T⟩, a, v, d, S, t⟩ : Rc)).toArray⟩] w' fun e w2 => ∃ b1 f1 b2 f2 b3 f3, e = .returned (.tuple #[.agg #[.int .i64 k, .int .i64 mk, .int .i64 r, .int .i64 n, .slice b1 L.length f1, .int .i64 s, .int .i64 y, .string md, .slice b2 T.length f2, .string a, .int .i64 v, .string d, .slice b3 S.length f3, .string t], .int .i64 0]) /\ RcIn w2 (⟨k, ⟨mk, r, n, L, s, y, md, T⟩, a, v, d, S, t⟩ : Rc) b1 f1 b2 f2 b3 f3 /\ Gr w' w2) := by
   intro q w' g
   have hl := hsm q
   have := decR_any ⟨(Rc.encL (⟨k, ⟨mk, r, n, L, s, y, md, T⟩, a, v, d, S, t⟩ : Rc)).toArray⟩ w' (by simp [ByteArray.size]; omega) (he.frm.gr g) (he.env.gr g)
   rw [show (⟨(Rc.encL (⟨k, ⟨mk, r, n, L, s, y, md, T⟩, a, v, d, S, t⟩ : Rc)).toArray⟩ : ByteArray).data.toList = Rc.encL (⟨k, ⟨mk, r, n, L, s, y, md, T⟩, a, v, d, S, t⟩ : Rc) from rfl, (Rc.dec_enc q).1, (Rc.dec_enc q).2] at this
   exact this
  have HI : Hid (∀ w', Gr w w' -> RcIn w' (⟨k, ⟨mk, r, n, L, s, y, md, T⟩, a, v, d, S, t⟩ : Rc) a1 e1 a2 e2 a3 e3) := fun w' g => h.gr g
  have H3 : Hid (∀ (w' : World) (b1 : Option Addr) (f1 : Nat) (b2 : Option Addr) (f2 : Nat) (b3 : Option Addr) (f3 : Nat), RcIn w' (⟨k, ⟨mk, r, n, L, s, y, md, T⟩, a, v, d, S, t⟩ : Rc) b1 f1 b2 f2 b3 f3 -> RcIn w' (⟨k, ⟨mk, r, n, L, s, y, md, T⟩, a, v, d, S, t⟩ : Rc) a1 e1 a2 e2 a3 e3 -> Calls Tryz.prog 20 #[.agg #[.int .i64 k, .int .i64 mk, .int .i64 r, .int .i64 n, .slice b1 L.length f1, .int .i64 s, .int .i64 y, .string md, .slice b2 T.length f2, .string a, .int .i64 v, .string d, .slice b3 S.length f3, .string t], .agg #[.int .i64 k, .int .i64 mk, .int .i64 r, .int .i64 n, .slice a1 L.length e1, .int .i64 s, .int .i64 y, .string md, .slice a2 T.length e2, .string a, .int .i64 v, .string d, .slice a3 S.length e3, .string t]] w' fun e w2 => e = .returned (.bool true) /\ Gr w' w2) := by
   intro w' b1 f1 b2 f2 b3 f3 i1 i2
   have := sameR_any k mk r n L s y md T a v d S t k mk r n L s y md T a v d S t b1 f1 b2 f2 b3 f3 a1 e1 a2 e2 a3 e3 w' i1 i2
   rw [(eqR_iff _ _).2 rfl] at this
   exact this
  have H4 : Hid (∀ w', Gr w w' -> Calls Tryz.prog 18 #[.string u] w' fun e w2 => ∃ a1 c1 a2 c2 a3 c3, e = .returned (.tuple #[.agg #[.int .i64 (Rc.dcR u.data.toList).k, .int .i64 (Rc.dcR u.data.toList).m.k, .int .i64 (Rc.dcR u.data.toList).m.r, .int .i64 (Rc.dcR u.data.toList).m.n, .slice a1 (Rc.dcR u.data.toList).m.L.length c1, .int .i64 (Rc.dcR u.data.toList).m.s, .int .i64 (Rc.dcR u.data.toList).m.y, .string (Rc.dcR u.data.toList).m.d, .slice a2 (Rc.dcR u.data.toList).m.S.length c2, .string (Rc.dcR u.data.toList).a, .int .i64 (Rc.dcR u.data.toList).v, .string (Rc.dcR u.data.toList).d, .slice a3 (Rc.dcR u.data.toList).S.length c3, .string (Rc.dcR u.data.toList).t], .int .i64 (Rc.dcE u.data.toList)]) /\ RcIn w2 (Rc.dcR u.data.toList) a1 c1 a2 c2 a3 c3 /\ Gr w' w2) := fun w' g => decR_any u w' hu (he.frm.gr g) (he.env.gr g)
  have HK : Hid (EnvR w) := he
  have HZ : Hid (¬ Rc.dcE u.data.toList = 0 -> Rc.dcR u.data.toList = Rc.zR /\ Rc.dcE u.data.toList = 140) := fun q => ⟨Rc.dec_zero q, by unfold Rc.dcE at q ⊢; split at q; exact absurd rfl q; rw [if_neg (by assumption)]⟩
  have HO : Hid (Rc.dcE u.data.toList = 0 -> Rc.rcE (Rc.dcR u.data.toList) = 0 /\ Rc.encL (Rc.dcR u.data.toList) = u.data.toList) := fun q => by
   obtain ⟨q1, q2⟩ := Rc.dec_form q
   exact ⟨by unfold Rc.rcE; rw [if_pos q1], q2⟩
  generalize hX : (⟨k, ⟨mk, r, n, L, s, y, md, T⟩, a, v, d, S, t⟩ : Rc) = X at *
  generalize Rc.encL X = E1 at *
  generalize Rc.rcE X = C1 at *
  generalize Rc.rcB X = bX at *
  have HXX := Lib.hid hX
  clear hX he h hf hu hsm
  by_cases h0 : Rc.dcE u.data.toList = 0
  ·rw [h0] at H4
   obtain ⟨o1, o2⟩ := HO.out h0
   clear HZ HO h0
   generalize Rc.dcR u.data.toList = Y at *
   obtain ⟨k', ⟨mk', r', n', L', s', y', md', T'⟩, aa, v', d', S', t'⟩ := Y
   simp only at H4
   have H5 : Hid (∀ (w' : World) (p1 : Option Addr) (q1 : Nat) (p2 : Option Addr) (q2 : Nat) (p3 : Option Addr) (q3 : Nat), Gr w w' -> RcIn w' (⟨k', ⟨mk', r', n', L', s', y', md', T'⟩, aa, v', d', S', t'⟩ : Rc) p1 q1 p2 q2 p3 q3 -> Calls Tryz.prog 16 #[.agg #[.int .i64 k', .int .i64 mk', .int .i64 r', .int .i64 n', .slice p1 L'.length q1, .int .i64 s', .int .i64 y', .string md', .slice p2 T'.length q2, .string aa, .int .i64 v', .string d', .slice p3 S'.length q3, .string t']] w' fun e w2 => e = .returned (.tuple #[.string u, .int .i64 0]) /\ Gr w' w2) := by
    intro w' p1 q1 p2 q2 p3 q3 g i
    have := encR_any k' mk' r' n' L' s' y' md' T' aa v' d' S' t' p1 q1 p2 q2 p3 q3 w' i (HK.out.frm.gr g) (HK.out.env.gr g)
    rw [o1, o2, mk_data] at this
    exact this
   have H6 : Hid (∀ (w' : World) (p1 : Option Addr) (q1 : Nat) (p2 : Option Addr) (q2 : Nat) (p3 : Option Addr) (q3 : Nat), Gr w w' -> RcIn w' (⟨k', ⟨mk', r', n', L', s', y', md', T'⟩, aa, v', d', S', t'⟩ : Rc) p1 q1 p2 q2 p3 q3 -> Calls Tryz.prog 14 #[.agg #[.int .i64 k', .int .i64 mk', .int .i64 r', .int .i64 n', .slice p1 L'.length q1, .int .i64 s', .int .i64 y', .string md', .slice p2 T'.length q2, .string aa, .int .i64 v', .string d', .slice p3 S'.length q3, .string t']] w' fun e w2 => e = .returned (.int .i64 0) /\ Gr w' w2) := by
    intro w' p1 q1 p2 q2 p3 q3 g i
    have := rCheck_any k' mk' r' n' L' s' y' md' T' aa v' d' S' t' p1 q1 p2 q2 p3 q3 w' i (HK.out.frm.gr g)
    rw [o1] at this
    exact this
   clear o1 o2
   cases bX with
   | false =>
    obtain rfl : C1 = 140 := HE.out
    exact back1 k mk r n L s y md T a v d S t a1 e1 a2 e2 a3 e3 w k' mk' r' n' L' s' y' md' T' aa v' d' S' t' u E1 h6 HA HW H1 H4 H5 H6
   | true =>
    obtain rfl : C1 = 0 := HE.out
    exact back2 k mk r n L s y md T a v d S t a1 e1 a2 e2 a3 e3 w k' mk' r' n' L' s' y' md' T' aa v' d' S' t' u X E1 h6 HA HW H1 (Lib.hid (H2.out rfl)) H3 HI H4 H5 H6
  ·obtain ⟨o1, o2⟩ := HZ.out h0
   rw [o1, o2] at H4
   clear HZ HO h0 o1 o2
   have H5 : Hid (∀ (w' : World) (p1 : Option Addr) (q1 : Nat) (p2 : Option Addr) (q2 : Nat) (p3 : Option Addr) (q3 : Nat), RcIn w' Rc.zR p1 q1 p2 q2 p3 q3 -> Calls Tryz.prog 20 #[.agg #[.int .i64 0, .int .i64 0, .int .i64 0, .int .i64 0, .slice p1 0 q1, .int .i64 0, .int .i64 0, .string ⟨#[]⟩, .slice p2 0 q2, .string ⟨#[]⟩, .int .i64 0, .string ⟨#[]⟩, .slice p3 0 q3, .string ⟨#[]⟩], .agg #[.int .i64 0, .int .i64 0, .int .i64 0, .int .i64 0, .slice none 0 0, .int .i64 0, .int .i64 0, .string ⟨#[]⟩, .slice none 0 0, .string ⟨#[]⟩, .int .i64 0, .string ⟨#[]⟩, .slice none 0 0, .string ⟨#[]⟩]] w' fun e w2 => e = .returned (.bool true) /\ Gr w' w2) := by
    intro w' p1 q1 p2 q2 p3 q3 i
    have := sameR_any 0 0 0 0 [] 0 0 ⟨#[]⟩ [] ⟨#[]⟩ 0 ⟨#[]⟩ [] ⟨#[]⟩ 0 0 0 0 [] 0 0 ⟨#[]⟩ [] ⟨#[]⟩ 0 ⟨#[]⟩ [] ⟨#[]⟩ p1 q1 p2 q2 p3 q3 none 0 none 0 none 0 w' i (zR_in w')
    rw [(eqR_iff _ _).2 rfl] at this
    exact this
   have H4 : Hid (∀ w', Gr w w' -> Calls Tryz.prog 18 #[.string u] w' fun e w2 => ∃ a1 c1 a2 c2 a3 c3, e = .returned (.tuple #[.agg #[.int .i64 0, .int .i64 0, .int .i64 0, .int .i64 0, .slice a1 0 c1, .int .i64 0, .int .i64 0, .string ⟨#[]⟩, .slice a2 0 c2, .string ⟨#[]⟩, .int .i64 0, .string ⟨#[]⟩, .slice a3 0 c3, .string ⟨#[]⟩], .int .i64 140]) /\ RcIn w2 Rc.zR a1 c1 a2 c2 a3 c3 /\ Gr w' w2) := H4.out
   cases bX with
   | false =>
    obtain rfl : C1 = 140 := HE.out
    exact back3 k mk r n L s y md T a v d S t a1 e1 a2 e2 a3 e3 w u E1 h6 HA HW H1 H4 H5
   | true =>
    obtain rfl : C1 = 0 := HE.out
    exact back4 k mk r n L s y md T a v d S t a1 e1 a2 e2 a3 e3 w u X E1 h6 HA HW H1 (Lib.hid (H2.out rfl)) H3 HI H4 H5

theorem recordBack_lifted (os : Os) (started : os.Started) (H : Type) (enc : TypeId × Value -> H) :
  ReturnsInHanded {} Tryz.checked os 6 .any (fun w args => (Rows.recordBackSpec.pre enc Tryz.prog Tryz.f6 [] false w args /\ laidMetH Tryz.prog laidL w) /\ sizedMet enc Tryz.prog Tryz.f6 (OpenSpec.ofChange Rows.recordBackSpec) false w args)
   (Rows.recordBackSpec.post enc Tryz.prog Tryz.f6 false true false false) := by
 refine returnsInHanded_of_change_and (C := Tryz.checked) (X := fun w _ => laidMetH Tryz.prog laidL w) (fun _ _ _ hh h => h.of_heap hh) own2 started (by kernel_rfl) Tryz.func6
  (ChangeSpec.witness_shaped (enc := enc) (C := Tryz.checked) (os := os) (X := fun w _ => laidMetH Tryz.prog laidL w) false (World.doorLaid Tryz.prog 400 os) #[.agg #[.int .i64 0, .int .i64 0, .int .i64 0, .int .i64 0, .slice none 0 0, .int .i64 0, .int .i64 0, .string ⟨#[]⟩, .slice none 0 0, .string ⟨#[]⟩, .int .i64 0, .string ⟨#[]⟩, .slice none 0 0, .string ⟨#[]⟩], .string ⟨#[]⟩] 8 rfl (World.shaped_of_RefB (by kernel_rfl) (by kernel_rfl)) (by kernel_rfl) (by kernel_rfl) (by kernel_rfl) (door_met os _)) ?_
 intro W base args ds gs before hval0 hW _ hsz0 hL _
 have hval : ∀ (j : Nat) t v, Tryz.f6.params[j]? = some t -> args[j]? = some v -> Value.okWide Tryz.prog W .any base t v := hval0
 have hsz : (DataW.weightsEach Tryz.prog (Tryz.f6.params.toList ++ Rows.recordBackSpec.plain.varTypes Tryz.prog) (ds ++ gs)).all (· <= reachBytes) = true := hsz0
 have hW' := hW
 obtain ⟨p, q, hA0, hV, rfl, hfz, hnd⟩ := hW
 have hA : DataW.TrodAll enc Tryz.prog W 0 (fun _ => true) true Tryz.f6.params.toList args.toList ds p := hA0
 rw [Tryz.params6] at hA hval hsz
 obtain ⟨v0, v1, d0, d1, p0, p1, rfl, rfl, rfl, h0, h1⟩ := trodAll_two hA
 obtain ⟨rfl, rfl⟩ := trodVars_none hV
 have k0 := h0
 have lt0 : ∀ x ∈ p0, x.block < W.heap.size := by obtain ⟨m, hm⟩ := k0; exact DataW.trod_lt m _ _ _ hm
 obtain ⟨x0, u0, f0, y0, g0, z0, i0, rfl, hI0⟩ := open_rec (hval 0 31 v0 rfl rfl) h0
 obtain ⟨a1, rfl, rfl, rfl, wa1⟩ := open_string Tryz.underlying9 (hval 1 9 v1 rfl rfl) h1
 have hr1 : a1.size <= 140737488355328 := by
  have hr := sized_string hsz (j := 1) (t := 9) rfl rfl
  have : a1.data.toList.length = a1.size := by simp
  simp only [reachBytes] at hr
  omega
 clear hA0 hval0
 have hT := env_of_laid hL
 refine (recordBack_walk x0.k x0.m.k x0.m.r x0.m.n x0.m.L x0.m.s x0.m.y x0.m.d x0.m.S x0.a x0.v x0.d x0.S x0.t u0 f0 y0 g0 z0 i0 W a1 hT hI0 hr1).mono fun e W' ⟨he, hg⟩ => ?_
 subst he
 exact ⟨_, rfl, _, _, _, [], _, [], hW', trodAll_mk1 (shut_bool Tryz.underlying4 _), trodAll_mk2 (Below.trod laidOut2 (by kernel_rfl) (of_decide_eq_true (by kernel_rfl)) k0 hg.below lt0) (shut_string Tryz.underlying9 wa1), rfl, hg.below.frame _, fun h => by cases h⟩

theorem recordBack_holds : Rows.RecordBackSaid :=
 OpenClaim.holds_of_wide 6 Tryz.f6 rfl rfl rfl rfl rfl rfl rfl ⟨rfl, rfl, rfl, rfl, rfl⟩ rfl rfl rfl rfl rfl (by kernel_rfl) Tryz.func6 (by kernel_rfl)
  (of_decide_eq_true (by kernel_rfl)) (by unfold Func.isWrapper; first | (rw [if_pos (by decide +kernel)]; kernel_rfl) | (rw [if_neg (by decide +kernel)]; exact ⟨rfl, rfl⟩))
  (fun os started H enc _ => recordBack_lifted os started H enc)

theorem recordBack_card_holds : Rows.RecordBackCardSaid :=
 Claim7.holds_tied_plain_at .later [] [.data, .data, .data, .sentinel, .sentinel, .data] true (true, "5e01d08355a620625b7217d8cd0ac96b317f0158d9cea4c397742b982576dae0") true
  recordBack_holds (fun _ h => by cases h) (by kernel_rfl) (fun _ h => by cases h) recordBack_row_tie rfl ⟨rfl, rfl⟩ (by kernel_rfl) rfl
  (fun f fn hf hfn => by
   obtain rfl : f = 6 := Option.some.inj ((show Tryz.prog.funcNamed "entente/ententelaw14.RecordBack" = some 6 by kernel_rfl).symm.trans hf) |>.symm
   obtain rfl : fn = Tryz.f6 := (Option.some.inj (Tryz.func6.symm.trans hfn)).symm
   exact ⟨by kernel_rfl, fun j t ht => by
    rw [Tryz.params6] at ht
    have hm : t ∈ [31, 9] := by simpa using Array.mem_of_getElem? ht
    have hall : ([31, 9].all fun u => !Tryz.prog.wantsStandIn u) = true := by kernel_rfl
    exact (show Tryz.prog.wantsStandIn t = false by simpa using List.all_eq_true.1 hall t hm)⟩)
  (by kernel_rfl)
end Go.Proofs.YthaadiclopoamaaGreatDoor
