/- For every input the law RecordApart answers true: records that are not the same have unlike bytes. -/
import Derived.Test.YthaadiclopoamaaGreatDoorGBA
import Derived.Test.YthaadiclopoamaaGreatDoorGV
import Derived.Test.YthaadiclopoamaaGreatDoorGBW
import Derived.SevenTiedAt
set_option maxRecDepth 100000
set_option maxHeartbeats 8000000
namespace Go.Proofs.YthaadiclopoamaaGreatDoor
open Go.ChangeShapes Go.WideShapes Go.ChangeAt Go.RowKit
open Go.ChangeMaps (open_string shut_string)
open Df (Stp)
theorem apart1 (k mk r n : Int) (L : List (Int × Int)) (s y : Int) (md : ByteArray) (T : List Stp) (a : ByteArray) (v : Int) (d : ByteArray) (S : List Stp) (t : ByteArray) (a1 : Option Addr) (e1 : Nat) (a2 : Option Addr) (e2 : Nat) (a3 : Option Addr) (e3 : Nat) (k2 mk2 r2 n2 : Int) (L2 : List (Int × Int)) (s2 y2 : Int) (md2 : ByteArray) (T2 : List Stp) (aa : ByteArray) (v2 : Int) (d2 : ByteArray) (S2 : List Stp) (t2 : ByteArray) (b1 : Option Addr) (f1 : Nat) (b2 : Option Addr) (f2 : Nat) (b3 : Option Addr) (f3 : Nat) (w : World) (_E1 _E2 : ByteArray) (HA : Hid (∀ w', Gr w w' -> Calls Tryz.prog 9 #[] w' fun e w2 => e = .returned (.bool true) /\ Gr w' w2)) (HW : Hid (∀ w', Gr w w' -> Calls Tryz.prog 8 #[.agg #[.int .i64 k, .int .i64 mk, .int .i64 r, .int .i64 n, .slice a1 L.length e1, .int .i64 s, .int .i64 y, .string md, .slice a2 T.length e2, .string a, .int .i64 v, .string d, .slice a3 S.length e3, .string t]] w' fun e w2 => e = .returned (.bool false) /\ Gr w' w2)) :
  Calls Tryz.prog 7 #[.agg #[.int .i64 k, .int .i64 mk, .int .i64 r, .int .i64 n, .slice a1 L.length e1, .int .i64 s, .int .i64 y, .string md, .slice a2 T.length e2, .string a, .int .i64 v, .string d, .slice a3 S.length e3, .string t], .agg #[.int .i64 k2, .int .i64 mk2, .int .i64 r2, .int .i64 n2, .slice b1 L2.length f1, .int .i64 s2, .int .i64 y2, .string md2, .slice b2 T2.length f2, .string aa, .int .i64 v2, .string d2, .slice b3 S2.length f3, .string t2]] w fun e w' => e = .returned (.bool true) /\ Gr w w' := by
 go_enter Tryz.func7, Tryz.ntmps7
 go_wp2_with fail
 refine (HW.out _ ?_).mono ?_
 ·exact (Gr.refl _).alloc.alloc
 rintro g0 w0 ⟨rfl, hg0⟩
 have G0 := (Gr.refl w).alloc.alloc.trans hg0
 have B0 := (Cs.new w _ _ _ rfl).alloc.gr hg0
 have D0 : Cs w0 (w.heap.size + 1) _ := (Cs.new _ _ _ _ (by simp)).gr hg0
 clear hg0
 obtain ⟨c0, c1, c2, c3, c4, c5, c6, c7, c8, c9, c10, c11, c12, c13, clt⟩ := B0.c14
 obtain ⟨h0, h1, h2, h3, h4, h5, h6, h7, h8, h9, h10, h11, h12, h13, hlt⟩ := D0.c14
 go_wp2_with fail
 refine (HA.out _ G0).mono ?_
 rintro g1 w1 ⟨rfl, hg1⟩
 have G1 : Gr w w1 := G0.trans hg1
 go_wp2
 go_ret
 exact ⟨rfl, G1⟩

theorem apart2 (k mk r n : Int) (L : List (Int × Int)) (s y : Int) (md : ByteArray) (T : List Stp) (a : ByteArray) (v : Int) (d : ByteArray) (S : List Stp) (t : ByteArray) (a1 : Option Addr) (e1 : Nat) (a2 : Option Addr) (e2 : Nat) (a3 : Option Addr) (e3 : Nat) (k2 mk2 r2 n2 : Int) (L2 : List (Int × Int)) (s2 y2 : Int) (md2 : ByteArray) (T2 : List Stp) (aa : ByteArray) (v2 : Int) (d2 : ByteArray) (S2 : List Stp) (t2 : ByteArray) (b1 : Option Addr) (f1 : Nat) (b2 : Option Addr) (f2 : Nat) (b3 : Option Addr) (f3 : Nat) (w : World) (_E1 _E2 : ByteArray) (HA : Hid (∀ w', Gr w w' -> Calls Tryz.prog 9 #[] w' fun e w2 => e = .returned (.bool true) /\ Gr w' w2)) (HW : Hid (∀ w', Gr w w' -> Calls Tryz.prog 8 #[.agg #[.int .i64 k, .int .i64 mk, .int .i64 r, .int .i64 n, .slice a1 L.length e1, .int .i64 s, .int .i64 y, .string md, .slice a2 T.length e2, .string a, .int .i64 v, .string d, .slice a3 S.length e3, .string t]] w' fun e w2 => e = .returned (.bool true) /\ Gr w' w2)) (HV : Hid (∀ w', Gr w w' -> Calls Tryz.prog 8 #[.agg #[.int .i64 k2, .int .i64 mk2, .int .i64 r2, .int .i64 n2, .slice b1 L2.length f1, .int .i64 s2, .int .i64 y2, .string md2, .slice b2 T2.length f2, .string aa, .int .i64 v2, .string d2, .slice b3 S2.length f3, .string t2]] w' fun e w2 => e = .returned (.bool false) /\ Gr w' w2)) :
  Calls Tryz.prog 7 #[.agg #[.int .i64 k, .int .i64 mk, .int .i64 r, .int .i64 n, .slice a1 L.length e1, .int .i64 s, .int .i64 y, .string md, .slice a2 T.length e2, .string a, .int .i64 v, .string d, .slice a3 S.length e3, .string t], .agg #[.int .i64 k2, .int .i64 mk2, .int .i64 r2, .int .i64 n2, .slice b1 L2.length f1, .int .i64 s2, .int .i64 y2, .string md2, .slice b2 T2.length f2, .string aa, .int .i64 v2, .string d2, .slice b3 S2.length f3, .string t2]] w fun e w' => e = .returned (.bool true) /\ Gr w w' := by
 go_enter Tryz.func7, Tryz.ntmps7
 go_wp2_with fail
 refine (HW.out _ ?_).mono ?_
 ·exact (Gr.refl _).alloc.alloc
 rintro g0 w0 ⟨rfl, hg0⟩
 have G0 := (Gr.refl w).alloc.alloc.trans hg0
 have B0 := (Cs.new w _ _ _ rfl).alloc.gr hg0
 have D0 : Cs w0 (w.heap.size + 1) _ := (Cs.new _ _ _ _ (by simp)).gr hg0
 clear hg0
 obtain ⟨c0, c1, c2, c3, c4, c5, c6, c7, c8, c9, c10, c11, c12, c13, clt⟩ := B0.c14
 obtain ⟨h0, h1, h2, h3, h4, h5, h6, h7, h8, h9, h10, h11, h12, h13, hlt⟩ := D0.c14
 go_wp2_with fail
 refine (HV.out _ G0).mono ?_
 rintro g1 w1 ⟨rfl, hg1⟩
 have G1 : Gr w w1 := G0.trans hg1
 have B1 := B0.gr hg1
 have D1 := D0.gr hg1
 clear hg1 B0 D0
 clear c0 c1 c2 c3 c4 c5 c6 c7 c8 c9 c10 c11 c12 c13 clt
 clear h0 h1 h2 h3 h4 h5 h6 h7 h8 h9 h10 h11 h12 h13 hlt
 obtain ⟨c0, c1, c2, c3, c4, c5, c6, c7, c8, c9, c10, c11, c12, c13, clt⟩ := B1.c14
 obtain ⟨h0, h1, h2, h3, h4, h5, h6, h7, h8, h9, h10, h11, h12, h13, hlt⟩ := D1.c14
 go_wp2_with fail
 refine (HA.out _ G1).mono ?_
 rintro g2 w2 ⟨rfl, hg2⟩
 have G2 : Gr w w2 := G1.trans hg2
 go_wp2
 go_ret
 exact ⟨rfl, G2⟩

theorem apart3 (k mk r n : Int) (L : List (Int × Int)) (s y : Int) (md : ByteArray) (T : List Stp) (a : ByteArray) (v : Int) (d : ByteArray) (S : List Stp) (t : ByteArray) (a1 : Option Addr) (e1 : Nat) (a2 : Option Addr) (e2 : Nat) (a3 : Option Addr) (e3 : Nat) (k2 mk2 r2 n2 : Int) (L2 : List (Int × Int)) (s2 y2 : Int) (md2 : ByteArray) (T2 : List Stp) (aa : ByteArray) (v2 : Int) (d2 : ByteArray) (S2 : List Stp) (t2 : ByteArray) (b1 : Option Addr) (f1 : Nat) (b2 : Option Addr) (f2 : Nat) (b3 : Option Addr) (f3 : Nat) (w : World) (E1 E2 : ByteArray) (HA : Hid (∀ w', Gr w w' -> Calls Tryz.prog 9 #[] w' fun e w2 => e = .returned (.bool true) /\ Gr w' w2)) (ce : Int) (HW : Hid (∀ w', Gr w w' -> Calls Tryz.prog 8 #[.agg #[.int .i64 k, .int .i64 mk, .int .i64 r, .int .i64 n, .slice a1 L.length e1, .int .i64 s, .int .i64 y, .string md, .slice a2 T.length e2, .string a, .int .i64 v, .string d, .slice a3 S.length e3, .string t]] w' fun e w2 => e = .returned (.bool true) /\ Gr w' w2)) (HV : Hid (∀ w', Gr w w' -> Calls Tryz.prog 8 #[.agg #[.int .i64 k2, .int .i64 mk2, .int .i64 r2, .int .i64 n2, .slice b1 L2.length f1, .int .i64 s2, .int .i64 y2, .string md2, .slice b2 T2.length f2, .string aa, .int .i64 v2, .string d2, .slice b3 S2.length f3, .string t2]] w' fun e w2 => e = .returned (.bool true) /\ Gr w' w2)) (H1 : Hid (∀ w', Gr w w' -> Calls Tryz.prog 16 #[.agg #[.int .i64 k, .int .i64 mk, .int .i64 r, .int .i64 n, .slice a1 L.length e1, .int .i64 s, .int .i64 y, .string md, .slice a2 T.length e2, .string a, .int .i64 v, .string d, .slice a3 S.length e3, .string t]] w' fun e w2 => e = .returned (.tuple #[.string E1, .int .i64 140]) /\ Gr w' w2)) (H2 : Hid (∀ w', Gr w w' -> Calls Tryz.prog 16 #[.agg #[.int .i64 k2, .int .i64 mk2, .int .i64 r2, .int .i64 n2, .slice b1 L2.length f1, .int .i64 s2, .int .i64 y2, .string md2, .slice b2 T2.length f2, .string aa, .int .i64 v2, .string d2, .slice b3 S2.length f3, .string t2]] w' fun e w2 => e = .returned (.tuple #[.string E2, .int .i64 ce]) /\ Gr w' w2)) :
  Calls Tryz.prog 7 #[.agg #[.int .i64 k, .int .i64 mk, .int .i64 r, .int .i64 n, .slice a1 L.length e1, .int .i64 s, .int .i64 y, .string md, .slice a2 T.length e2, .string a, .int .i64 v, .string d, .slice a3 S.length e3, .string t], .agg #[.int .i64 k2, .int .i64 mk2, .int .i64 r2, .int .i64 n2, .slice b1 L2.length f1, .int .i64 s2, .int .i64 y2, .string md2, .slice b2 T2.length f2, .string aa, .int .i64 v2, .string d2, .slice b3 S2.length f3, .string t2]] w fun e w' => e = .returned (.bool true) /\ Gr w w' := by
 go_enter Tryz.func7, Tryz.ntmps7
 go_wp2_with fail
 refine (HW.out _ ?_).mono ?_
 ·exact (Gr.refl _).alloc.alloc
 rintro g0 w0 ⟨rfl, hg0⟩
 have G0 := (Gr.refl w).alloc.alloc.trans hg0
 have B0 := (Cs.new w _ _ _ rfl).alloc.gr hg0
 have D0 : Cs w0 (w.heap.size + 1) _ := (Cs.new _ _ _ _ (by simp)).gr hg0
 clear hg0
 obtain ⟨c0, c1, c2, c3, c4, c5, c6, c7, c8, c9, c10, c11, c12, c13, clt⟩ := B0.c14
 obtain ⟨h0, h1, h2, h3, h4, h5, h6, h7, h8, h9, h10, h11, h12, h13, hlt⟩ := D0.c14
 go_wp2_with fail
 refine (HV.out _ G0).mono ?_
 rintro g1 w1 ⟨rfl, hg1⟩
 have G1 : Gr w w1 := G0.trans hg1
 have B1 := B0.gr hg1
 have D1 := D0.gr hg1
 clear hg1 B0 D0
 clear c0 c1 c2 c3 c4 c5 c6 c7 c8 c9 c10 c11 c12 c13 clt
 clear h0 h1 h2 h3 h4 h5 h6 h7 h8 h9 h10 h11 h12 h13 hlt
 obtain ⟨c0, c1, c2, c3, c4, c5, c6, c7, c8, c9, c10, c11, c12, c13, clt⟩ := B1.c14
 obtain ⟨h0, h1, h2, h3, h4, h5, h6, h7, h8, h9, h10, h11, h12, h13, hlt⟩ := D1.c14
 go_wp2_with fail
 refine (H1.out _ G1).mono ?_
 rintro g2 w2 ⟨rfl, hg2⟩
 have G2 : Gr w w2 := G1.trans hg2
 have B2 := B1.gr hg2
 have D2 := D1.gr hg2
 clear hg2 B1 D1
 clear c0 c1 c2 c3 c4 c5 c6 c7 c8 c9 c10 c11 c12 c13 clt
 clear h0 h1 h2 h3 h4 h5 h6 h7 h8 h9 h10 h11 h12 h13 hlt
 obtain ⟨c0, c1, c2, c3, c4, c5, c6, c7, c8, c9, c10, c11, c12, c13, clt⟩ := B2.c14
 obtain ⟨h0, h1, h2, h3, h4, h5, h6, h7, h8, h9, h10, h11, h12, h13, hlt⟩ := D2.c14
 go_wp2_with fail
 refine (H2.out _ G2).mono ?_
 rintro g3 w3 ⟨rfl, hg3⟩
 have G3 : Gr w w3 := G2.trans hg3
 go_wp2_with fail
 refine (HA.out _ G3).mono ?_
 rintro g4 w4 ⟨rfl, hg4⟩
 have G4 : Gr w w4 := G3.trans hg4
 go_wp2
 go_ret
 exact ⟨rfl, G4⟩

theorem apart4 (k mk r n : Int) (L : List (Int × Int)) (s y : Int) (md : ByteArray) (T : List Stp) (a : ByteArray) (v : Int) (d : ByteArray) (S : List Stp) (t : ByteArray) (a1 : Option Addr) (e1 : Nat) (a2 : Option Addr) (e2 : Nat) (a3 : Option Addr) (e3 : Nat) (k2 mk2 r2 n2 : Int) (L2 : List (Int × Int)) (s2 y2 : Int) (md2 : ByteArray) (T2 : List Stp) (aa : ByteArray) (v2 : Int) (d2 : ByteArray) (S2 : List Stp) (t2 : ByteArray) (b1 : Option Addr) (f1 : Nat) (b2 : Option Addr) (f2 : Nat) (b3 : Option Addr) (f3 : Nat) (w : World) (E1 E2 : ByteArray) (HA : Hid (∀ w', Gr w w' -> Calls Tryz.prog 9 #[] w' fun e w2 => e = .returned (.bool true) /\ Gr w' w2)) (HW : Hid (∀ w', Gr w w' -> Calls Tryz.prog 8 #[.agg #[.int .i64 k, .int .i64 mk, .int .i64 r, .int .i64 n, .slice a1 L.length e1, .int .i64 s, .int .i64 y, .string md, .slice a2 T.length e2, .string a, .int .i64 v, .string d, .slice a3 S.length e3, .string t]] w' fun e w2 => e = .returned (.bool true) /\ Gr w' w2)) (HV : Hid (∀ w', Gr w w' -> Calls Tryz.prog 8 #[.agg #[.int .i64 k2, .int .i64 mk2, .int .i64 r2, .int .i64 n2, .slice b1 L2.length f1, .int .i64 s2, .int .i64 y2, .string md2, .slice b2 T2.length f2, .string aa, .int .i64 v2, .string d2, .slice b3 S2.length f3, .string t2]] w' fun e w2 => e = .returned (.bool true) /\ Gr w' w2)) (H1 : Hid (∀ w', Gr w w' -> Calls Tryz.prog 16 #[.agg #[.int .i64 k, .int .i64 mk, .int .i64 r, .int .i64 n, .slice a1 L.length e1, .int .i64 s, .int .i64 y, .string md, .slice a2 T.length e2, .string a, .int .i64 v, .string d, .slice a3 S.length e3, .string t]] w' fun e w2 => e = .returned (.tuple #[.string E1, .int .i64 0]) /\ Gr w' w2)) (H2 : Hid (∀ w', Gr w w' -> Calls Tryz.prog 16 #[.agg #[.int .i64 k2, .int .i64 mk2, .int .i64 r2, .int .i64 n2, .slice b1 L2.length f1, .int .i64 s2, .int .i64 y2, .string md2, .slice b2 T2.length f2, .string aa, .int .i64 v2, .string d2, .slice b3 S2.length f3, .string t2]] w' fun e w2 => e = .returned (.tuple #[.string E2, .int .i64 140]) /\ Gr w' w2)) :
  Calls Tryz.prog 7 #[.agg #[.int .i64 k, .int .i64 mk, .int .i64 r, .int .i64 n, .slice a1 L.length e1, .int .i64 s, .int .i64 y, .string md, .slice a2 T.length e2, .string a, .int .i64 v, .string d, .slice a3 S.length e3, .string t], .agg #[.int .i64 k2, .int .i64 mk2, .int .i64 r2, .int .i64 n2, .slice b1 L2.length f1, .int .i64 s2, .int .i64 y2, .string md2, .slice b2 T2.length f2, .string aa, .int .i64 v2, .string d2, .slice b3 S2.length f3, .string t2]] w fun e w' => e = .returned (.bool true) /\ Gr w w' := by
 go_enter Tryz.func7, Tryz.ntmps7
 go_wp2_with fail
 refine (HW.out _ ?_).mono ?_
 ·exact (Gr.refl _).alloc.alloc
 rintro g0 w0 ⟨rfl, hg0⟩
 have G0 := (Gr.refl w).alloc.alloc.trans hg0
 have B0 := (Cs.new w _ _ _ rfl).alloc.gr hg0
 have D0 : Cs w0 (w.heap.size + 1) _ := (Cs.new _ _ _ _ (by simp)).gr hg0
 clear hg0
 obtain ⟨c0, c1, c2, c3, c4, c5, c6, c7, c8, c9, c10, c11, c12, c13, clt⟩ := B0.c14
 obtain ⟨h0, h1, h2, h3, h4, h5, h6, h7, h8, h9, h10, h11, h12, h13, hlt⟩ := D0.c14
 go_wp2_with fail
 refine (HV.out _ G0).mono ?_
 rintro g1 w1 ⟨rfl, hg1⟩
 have G1 : Gr w w1 := G0.trans hg1
 have B1 := B0.gr hg1
 have D1 := D0.gr hg1
 clear hg1 B0 D0
 clear c0 c1 c2 c3 c4 c5 c6 c7 c8 c9 c10 c11 c12 c13 clt
 clear h0 h1 h2 h3 h4 h5 h6 h7 h8 h9 h10 h11 h12 h13 hlt
 obtain ⟨c0, c1, c2, c3, c4, c5, c6, c7, c8, c9, c10, c11, c12, c13, clt⟩ := B1.c14
 obtain ⟨h0, h1, h2, h3, h4, h5, h6, h7, h8, h9, h10, h11, h12, h13, hlt⟩ := D1.c14
 go_wp2_with fail
 refine (H1.out _ G1).mono ?_
 rintro g2 w2 ⟨rfl, hg2⟩
 have G2 : Gr w w2 := G1.trans hg2
 have B2 := B1.gr hg2
 have D2 := D1.gr hg2
 clear hg2 B1 D1
 clear c0 c1 c2 c3 c4 c5 c6 c7 c8 c9 c10 c11 c12 c13 clt
 clear h0 h1 h2 h3 h4 h5 h6 h7 h8 h9 h10 h11 h12 h13 hlt
 obtain ⟨c0, c1, c2, c3, c4, c5, c6, c7, c8, c9, c10, c11, c12, c13, clt⟩ := B2.c14
 obtain ⟨h0, h1, h2, h3, h4, h5, h6, h7, h8, h9, h10, h11, h12, h13, hlt⟩ := D2.c14
 go_wp2_with fail
 refine (H2.out _ G2).mono ?_
 rintro g3 w3 ⟨rfl, hg3⟩
 have G3 : Gr w w3 := G2.trans hg3
 go_wp2_with fail
 refine (HA.out _ G3).mono ?_
 rintro g4 w4 ⟨rfl, hg4⟩
 have G4 : Gr w w4 := G3.trans hg4
 go_wp2
 go_ret
 exact ⟨rfl, G4⟩

theorem apart5 (k mk r n : Int) (L : List (Int × Int)) (s y : Int) (md : ByteArray) (T : List Stp) (a : ByteArray) (v : Int) (d : ByteArray) (S : List Stp) (t : ByteArray) (a1 : Option Addr) (e1 : Nat) (a2 : Option Addr) (e2 : Nat) (a3 : Option Addr) (e3 : Nat) (k2 mk2 r2 n2 : Int) (L2 : List (Int × Int)) (s2 y2 : Int) (md2 : ByteArray) (T2 : List Stp) (aa : ByteArray) (v2 : Int) (d2 : ByteArray) (S2 : List Stp) (t2 : ByteArray) (b1 : Option Addr) (f1 : Nat) (b2 : Option Addr) (f2 : Nat) (b3 : Option Addr) (f3 : Nat) (w : World) (E1 E2 : ByteArray) (HA : Hid (∀ w', Gr w w' -> Calls Tryz.prog 9 #[] w' fun e w2 => e = .returned (.bool true) /\ Gr w' w2)) (HW : Hid (∀ w', Gr w w' -> Calls Tryz.prog 8 #[.agg #[.int .i64 k, .int .i64 mk, .int .i64 r, .int .i64 n, .slice a1 L.length e1, .int .i64 s, .int .i64 y, .string md, .slice a2 T.length e2, .string a, .int .i64 v, .string d, .slice a3 S.length e3, .string t]] w' fun e w2 => e = .returned (.bool true) /\ Gr w' w2)) (HV : Hid (∀ w', Gr w w' -> Calls Tryz.prog 8 #[.agg #[.int .i64 k2, .int .i64 mk2, .int .i64 r2, .int .i64 n2, .slice b1 L2.length f1, .int .i64 s2, .int .i64 y2, .string md2, .slice b2 T2.length f2, .string aa, .int .i64 v2, .string d2, .slice b3 S2.length f3, .string t2]] w' fun e w2 => e = .returned (.bool true) /\ Gr w' w2)) (H1 : Hid (∀ w', Gr w w' -> Calls Tryz.prog 16 #[.agg #[.int .i64 k, .int .i64 mk, .int .i64 r, .int .i64 n, .slice a1 L.length e1, .int .i64 s, .int .i64 y, .string md, .slice a2 T.length e2, .string a, .int .i64 v, .string d, .slice a3 S.length e3, .string t]] w' fun e w2 => e = .returned (.tuple #[.string E1, .int .i64 0]) /\ Gr w' w2)) (H2 : Hid (∀ w', Gr w w' -> Calls Tryz.prog 16 #[.agg #[.int .i64 k2, .int .i64 mk2, .int .i64 r2, .int .i64 n2, .slice b1 L2.length f1, .int .i64 s2, .int .i64 y2, .string md2, .slice b2 T2.length f2, .string aa, .int .i64 v2, .string d2, .slice b3 S2.length f3, .string t2]] w' fun e w2 => e = .returned (.tuple #[.string E2, .int .i64 0]) /\ Gr w' w2)) (H3 : Hid (∀ w', Gr w w' -> Calls Tryz.prog 20 #[.agg #[.int .i64 k, .int .i64 mk, .int .i64 r, .int .i64 n, .slice a1 L.length e1, .int .i64 s, .int .i64 y, .string md, .slice a2 T.length e2, .string a, .int .i64 v, .string d, .slice a3 S.length e3, .string t], .agg #[.int .i64 k2, .int .i64 mk2, .int .i64 r2, .int .i64 n2, .slice b1 L2.length f1, .int .i64 s2, .int .i64 y2, .string md2, .slice b2 T2.length f2, .string aa, .int .i64 v2, .string d2, .slice b3 S2.length f3, .string t2]] w' fun e w2 => e = .returned (.bool false) /\ Gr w' w2)) (hq : (E1.toList == E2.toList) = false) :
  Calls Tryz.prog 7 #[.agg #[.int .i64 k, .int .i64 mk, .int .i64 r, .int .i64 n, .slice a1 L.length e1, .int .i64 s, .int .i64 y, .string md, .slice a2 T.length e2, .string a, .int .i64 v, .string d, .slice a3 S.length e3, .string t], .agg #[.int .i64 k2, .int .i64 mk2, .int .i64 r2, .int .i64 n2, .slice b1 L2.length f1, .int .i64 s2, .int .i64 y2, .string md2, .slice b2 T2.length f2, .string aa, .int .i64 v2, .string d2, .slice b3 S2.length f3, .string t2]] w fun e w' => e = .returned (.bool true) /\ Gr w w' := by
 go_enter Tryz.func7, Tryz.ntmps7
 go_wp2_with fail
 refine (HW.out _ ?_).mono ?_
 ·exact (Gr.refl _).alloc.alloc
 rintro g0 w0 ⟨rfl, hg0⟩
 have G0 := (Gr.refl w).alloc.alloc.trans hg0
 have B0 := (Cs.new w _ _ _ rfl).alloc.gr hg0
 have D0 : Cs w0 (w.heap.size + 1) _ := (Cs.new _ _ _ _ (by simp)).gr hg0
 clear hg0
 obtain ⟨c0, c1, c2, c3, c4, c5, c6, c7, c8, c9, c10, c11, c12, c13, clt⟩ := B0.c14
 obtain ⟨h0, h1, h2, h3, h4, h5, h6, h7, h8, h9, h10, h11, h12, h13, hlt⟩ := D0.c14
 go_wp2_with fail
 refine (HV.out _ G0).mono ?_
 rintro g1 w1 ⟨rfl, hg1⟩
 have G1 : Gr w w1 := G0.trans hg1
 have B1 := B0.gr hg1
 have D1 := D0.gr hg1
 clear hg1 B0 D0
 clear c0 c1 c2 c3 c4 c5 c6 c7 c8 c9 c10 c11 c12 c13 clt
 clear h0 h1 h2 h3 h4 h5 h6 h7 h8 h9 h10 h11 h12 h13 hlt
 obtain ⟨c0, c1, c2, c3, c4, c5, c6, c7, c8, c9, c10, c11, c12, c13, clt⟩ := B1.c14
 obtain ⟨h0, h1, h2, h3, h4, h5, h6, h7, h8, h9, h10, h11, h12, h13, hlt⟩ := D1.c14
 go_wp2_with fail
 refine (H1.out _ G1).mono ?_
 rintro g2 w2 ⟨rfl, hg2⟩
 have G2 : Gr w w2 := G1.trans hg2
 have B2 := B1.gr hg2
 have D2 := D1.gr hg2
 clear hg2 B1 D1
 clear c0 c1 c2 c3 c4 c5 c6 c7 c8 c9 c10 c11 c12 c13 clt
 clear h0 h1 h2 h3 h4 h5 h6 h7 h8 h9 h10 h11 h12 h13 hlt
 obtain ⟨c0, c1, c2, c3, c4, c5, c6, c7, c8, c9, c10, c11, c12, c13, clt⟩ := B2.c14
 obtain ⟨h0, h1, h2, h3, h4, h5, h6, h7, h8, h9, h10, h11, h12, h13, hlt⟩ := D2.c14
 go_wp2_with fail
 refine (H2.out _ G2).mono ?_
 rintro g3 w3 ⟨rfl, hg3⟩
 have G3 : Gr w w3 := G2.trans hg3
 have B3 := B2.gr hg3
 have D3 := D2.gr hg3
 clear hg3 B2 D2
 clear c0 c1 c2 c3 c4 c5 c6 c7 c8 c9 c10 c11 c12 c13 clt
 clear h0 h1 h2 h3 h4 h5 h6 h7 h8 h9 h10 h11 h12 h13 hlt
 obtain ⟨c0, c1, c2, c3, c4, c5, c6, c7, c8, c9, c10, c11, c12, c13, clt⟩ := B3.c14
 obtain ⟨h0, h1, h2, h3, h4, h5, h6, h7, h8, h9, h10, h11, h12, h13, hlt⟩ := D3.c14
 go_wp2_with fail
 refine (H3.out _ G3).mono ?_
 rintro g4 w4 ⟨rfl, hg4⟩
 have G4 : Gr w w4 := G3.trans hg4
 go_wp2_with fail
 refine (HA.out _ G4).mono ?_
 rintro g5 w5 ⟨rfl, hg5⟩
 have G5 : Gr w w5 := G4.trans hg5
 go_wp2
 go_ret
 exact ⟨rfl, G5⟩

theorem apart6 (k mk r n : Int) (L : List (Int × Int)) (s y : Int) (md : ByteArray) (T : List Stp) (a : ByteArray) (v : Int) (d : ByteArray) (S : List Stp) (t : ByteArray) (a1 : Option Addr) (e1 : Nat) (a2 : Option Addr) (e2 : Nat) (a3 : Option Addr) (e3 : Nat) (k2 mk2 r2 n2 : Int) (L2 : List (Int × Int)) (s2 y2 : Int) (md2 : ByteArray) (T2 : List Stp) (aa : ByteArray) (v2 : Int) (d2 : ByteArray) (S2 : List Stp) (t2 : ByteArray) (b1 : Option Addr) (f1 : Nat) (b2 : Option Addr) (f2 : Nat) (b3 : Option Addr) (f3 : Nat) (w : World) (E1 E2 : ByteArray) (HA : Hid (∀ w', Gr w w' -> Calls Tryz.prog 9 #[] w' fun e w2 => e = .returned (.bool true) /\ Gr w' w2)) (HW : Hid (∀ w', Gr w w' -> Calls Tryz.prog 8 #[.agg #[.int .i64 k, .int .i64 mk, .int .i64 r, .int .i64 n, .slice a1 L.length e1, .int .i64 s, .int .i64 y, .string md, .slice a2 T.length e2, .string a, .int .i64 v, .string d, .slice a3 S.length e3, .string t]] w' fun e w2 => e = .returned (.bool true) /\ Gr w' w2)) (HV : Hid (∀ w', Gr w w' -> Calls Tryz.prog 8 #[.agg #[.int .i64 k2, .int .i64 mk2, .int .i64 r2, .int .i64 n2, .slice b1 L2.length f1, .int .i64 s2, .int .i64 y2, .string md2, .slice b2 T2.length f2, .string aa, .int .i64 v2, .string d2, .slice b3 S2.length f3, .string t2]] w' fun e w2 => e = .returned (.bool true) /\ Gr w' w2)) (H1 : Hid (∀ w', Gr w w' -> Calls Tryz.prog 16 #[.agg #[.int .i64 k, .int .i64 mk, .int .i64 r, .int .i64 n, .slice a1 L.length e1, .int .i64 s, .int .i64 y, .string md, .slice a2 T.length e2, .string a, .int .i64 v, .string d, .slice a3 S.length e3, .string t]] w' fun e w2 => e = .returned (.tuple #[.string E1, .int .i64 0]) /\ Gr w' w2)) (H2 : Hid (∀ w', Gr w w' -> Calls Tryz.prog 16 #[.agg #[.int .i64 k2, .int .i64 mk2, .int .i64 r2, .int .i64 n2, .slice b1 L2.length f1, .int .i64 s2, .int .i64 y2, .string md2, .slice b2 T2.length f2, .string aa, .int .i64 v2, .string d2, .slice b3 S2.length f3, .string t2]] w' fun e w2 => e = .returned (.tuple #[.string E2, .int .i64 0]) /\ Gr w' w2)) (H3 : Hid (∀ w', Gr w w' -> Calls Tryz.prog 20 #[.agg #[.int .i64 k, .int .i64 mk, .int .i64 r, .int .i64 n, .slice a1 L.length e1, .int .i64 s, .int .i64 y, .string md, .slice a2 T.length e2, .string a, .int .i64 v, .string d, .slice a3 S.length e3, .string t], .agg #[.int .i64 k2, .int .i64 mk2, .int .i64 r2, .int .i64 n2, .slice b1 L2.length f1, .int .i64 s2, .int .i64 y2, .string md2, .slice b2 T2.length f2, .string aa, .int .i64 v2, .string d2, .slice b3 S2.length f3, .string t2]] w' fun e w2 => e = .returned (.bool true) /\ Gr w' w2)) (hq : (E1.toList == E2.toList) = true) :
  Calls Tryz.prog 7 #[.agg #[.int .i64 k, .int .i64 mk, .int .i64 r, .int .i64 n, .slice a1 L.length e1, .int .i64 s, .int .i64 y, .string md, .slice a2 T.length e2, .string a, .int .i64 v, .string d, .slice a3 S.length e3, .string t], .agg #[.int .i64 k2, .int .i64 mk2, .int .i64 r2, .int .i64 n2, .slice b1 L2.length f1, .int .i64 s2, .int .i64 y2, .string md2, .slice b2 T2.length f2, .string aa, .int .i64 v2, .string d2, .slice b3 S2.length f3, .string t2]] w fun e w' => e = .returned (.bool true) /\ Gr w w' := by
 go_enter Tryz.func7, Tryz.ntmps7
 go_wp2_with fail
 refine (HW.out _ ?_).mono ?_
 ·exact (Gr.refl _).alloc.alloc
 rintro g0 w0 ⟨rfl, hg0⟩
 have G0 := (Gr.refl w).alloc.alloc.trans hg0
 have B0 := (Cs.new w _ _ _ rfl).alloc.gr hg0
 have D0 : Cs w0 (w.heap.size + 1) _ := (Cs.new _ _ _ _ (by simp)).gr hg0
 clear hg0
 obtain ⟨c0, c1, c2, c3, c4, c5, c6, c7, c8, c9, c10, c11, c12, c13, clt⟩ := B0.c14
 obtain ⟨h0, h1, h2, h3, h4, h5, h6, h7, h8, h9, h10, h11, h12, h13, hlt⟩ := D0.c14
 go_wp2_with fail
 refine (HV.out _ G0).mono ?_
 rintro g1 w1 ⟨rfl, hg1⟩
 have G1 : Gr w w1 := G0.trans hg1
 have B1 := B0.gr hg1
 have D1 := D0.gr hg1
 clear hg1 B0 D0
 clear c0 c1 c2 c3 c4 c5 c6 c7 c8 c9 c10 c11 c12 c13 clt
 clear h0 h1 h2 h3 h4 h5 h6 h7 h8 h9 h10 h11 h12 h13 hlt
 obtain ⟨c0, c1, c2, c3, c4, c5, c6, c7, c8, c9, c10, c11, c12, c13, clt⟩ := B1.c14
 obtain ⟨h0, h1, h2, h3, h4, h5, h6, h7, h8, h9, h10, h11, h12, h13, hlt⟩ := D1.c14
 go_wp2_with fail
 refine (H1.out _ G1).mono ?_
 rintro g2 w2 ⟨rfl, hg2⟩
 have G2 : Gr w w2 := G1.trans hg2
 have B2 := B1.gr hg2
 have D2 := D1.gr hg2
 clear hg2 B1 D1
 clear c0 c1 c2 c3 c4 c5 c6 c7 c8 c9 c10 c11 c12 c13 clt
 clear h0 h1 h2 h3 h4 h5 h6 h7 h8 h9 h10 h11 h12 h13 hlt
 obtain ⟨c0, c1, c2, c3, c4, c5, c6, c7, c8, c9, c10, c11, c12, c13, clt⟩ := B2.c14
 obtain ⟨h0, h1, h2, h3, h4, h5, h6, h7, h8, h9, h10, h11, h12, h13, hlt⟩ := D2.c14
 go_wp2_with fail
 refine (H2.out _ G2).mono ?_
 rintro g3 w3 ⟨rfl, hg3⟩
 have G3 : Gr w w3 := G2.trans hg3
 have B3 := B2.gr hg3
 have D3 := D2.gr hg3
 clear hg3 B2 D2
 clear c0 c1 c2 c3 c4 c5 c6 c7 c8 c9 c10 c11 c12 c13 clt
 clear h0 h1 h2 h3 h4 h5 h6 h7 h8 h9 h10 h11 h12 h13 hlt
 obtain ⟨c0, c1, c2, c3, c4, c5, c6, c7, c8, c9, c10, c11, c12, c13, clt⟩ := B3.c14
 obtain ⟨h0, h1, h2, h3, h4, h5, h6, h7, h8, h9, h10, h11, h12, h13, hlt⟩ := D3.c14
 go_wp2_with fail
 refine (H3.out _ G3).mono ?_
 rintro g4 w4 ⟨rfl, hg4⟩
 have G4 : Gr w w4 := G3.trans hg4
 go_wp2_with fail
 refine (HA.out _ G4).mono ?_
 rintro g5 w5 ⟨rfl, hg5⟩
 have G5 : Gr w w5 := G4.trans hg5
 go_wp2
 go_ret
 exact ⟨rfl, G5⟩
theorem recordApart_walk (k mk r n : Int) (L : List (Int × Int)) (s y : Int) (md : ByteArray) (T : List Stp) (a : ByteArray) (v : Int) (d : ByteArray) (S : List Stp) (t : ByteArray) (a1 : Option Addr) (e1 : Nat) (a2 : Option Addr) (e2 : Nat) (a3 : Option Addr) (e3 : Nat) (k2 mk2 r2 n2 : Int) (L2 : List (Int × Int)) (s2 y2 : Int) (md2 : ByteArray) (T2 : List Stp) (aa : ByteArray) (v2 : Int) (d2 : ByteArray) (S2 : List Stp) (t2 : ByteArray) (b1 : Option Addr) (f1 : Nat) (b2 : Option Addr) (f2 : Nat) (b3 : Option Addr) (f3 : Nat) (w : World) (he : EnvR w) (h : RcIn w (⟨k, ⟨mk, r, n, L, s, y, md, T⟩, a, v, d, S, t⟩ : Rc) a1 e1 a2 e2 a3 e3) (h' : RcIn w (⟨k2, ⟨mk2, r2, n2, L2, s2, y2, md2, T2⟩, aa, v2, d2, S2, t2⟩ : Rc) b1 f1 b2 f2 b3 f3) :
  Calls Tryz.prog 7 #[.agg #[.int .i64 k, .int .i64 mk, .int .i64 r, .int .i64 n, .slice a1 L.length e1, .int .i64 s, .int .i64 y, .string md, .slice a2 T.length e2, .string a, .int .i64 v, .string d, .slice a3 S.length e3, .string t], .agg #[.int .i64 k2, .int .i64 mk2, .int .i64 r2, .int .i64 n2, .slice b1 L2.length f1, .int .i64 s2, .int .i64 y2, .string md2, .slice b2 T2.length f2, .string aa, .int .i64 v2, .string d2, .slice b3 S2.length f3, .string t2]] w fun e w' => e = .returned (.bool true) /\ Gr w w' := by
 have HA : Hid (∀ w', Gr w w' -> Calls Tryz.prog 9 #[] w' fun e w2 => e = .returned (.bool true) /\ Gr w' w2) := fun w' g => awake_any w' (he.gr g)
 have HW : Hid (∀ w', Gr w w' -> Calls Tryz.prog 8 #[.agg #[.int .i64 k, .int .i64 mk, .int .i64 r, .int .i64 n, .slice a1 L.length e1, .int .i64 s, .int .i64 y, .string md, .slice a2 T.length e2, .string a, .int .i64 v, .string d, .slice a3 S.length e3, .string t]] w' fun e w2 => e = .returned (.bool (fewB (⟨k, ⟨mk, r, n, L, s, y, md, T⟩, a, v, d, S, t⟩ : Rc))) /\ Gr w' w2) := fun w' _ => few_any k mk r n L s y md T a v d S t a1 e1 a2 e2 a3 e3 w'
 have HV : Hid (∀ w', Gr w w' -> Calls Tryz.prog 8 #[.agg #[.int .i64 k2, .int .i64 mk2, .int .i64 r2, .int .i64 n2, .slice b1 L2.length f1, .int .i64 s2, .int .i64 y2, .string md2, .slice b2 T2.length f2, .string aa, .int .i64 v2, .string d2, .slice b3 S2.length f3, .string t2]] w' fun e w2 => e = .returned (.bool (fewB (⟨k2, ⟨mk2, r2, n2, L2, s2, y2, md2, T2⟩, aa, v2, d2, S2, t2⟩ : Rc))) /\ Gr w' w2) := fun w' _ => few_any k2 mk2 r2 n2 L2 s2 y2 md2 T2 aa v2 d2 S2 t2 b1 f1 b2 f2 b3 f3 w'
 have H1 : Hid (∀ w', Gr w w' -> Calls Tryz.prog 16 #[.agg #[.int .i64 k, .int .i64 mk, .int .i64 r, .int .i64 n, .slice a1 L.length e1, .int .i64 s, .int .i64 y, .string md, .slice a2 T.length e2, .string a, .int .i64 v, .string d, .slice a3 S.length e3, .string t]] w' fun e w2 => e = .returned (.tuple #[.string ⟨(Rc.encL (⟨k, ⟨mk, r, n, L, s, y, md, T⟩, a, v, d, S, t⟩ : Rc)).toArray⟩, .int .i64 (if Rc.rcB (⟨k, ⟨mk, r, n, L, s, y, md, T⟩, a, v, d, S, t⟩ : Rc) = true then 0 else 140)]) /\ Gr w' w2) := fun w' g => encR_any k mk r n L s y md T a v d S t a1 e1 a2 e2 a3 e3 w' (h.gr g) (he.frm.gr g) (he.env.gr g)
 have H2 : Hid (∀ w', Gr w w' -> Calls Tryz.prog 16 #[.agg #[.int .i64 k2, .int .i64 mk2, .int .i64 r2, .int .i64 n2, .slice b1 L2.length f1, .int .i64 s2, .int .i64 y2, .string md2, .slice b2 T2.length f2, .string aa, .int .i64 v2, .string d2, .slice b3 S2.length f3, .string t2]] w' fun e w2 => e = .returned (.tuple #[.string ⟨(Rc.encL (⟨k2, ⟨mk2, r2, n2, L2, s2, y2, md2, T2⟩, aa, v2, d2, S2, t2⟩ : Rc)).toArray⟩, .int .i64 (if Rc.rcB (⟨k2, ⟨mk2, r2, n2, L2, s2, y2, md2, T2⟩, aa, v2, d2, S2, t2⟩ : Rc) = true then 0 else 140)]) /\ Gr w' w2) := fun w' g => encR_any k2 mk2 r2 n2 L2 s2 y2 md2 T2 aa v2 d2 S2 t2 b1 f1 b2 f2 b3 f3 w' (h'.gr g) (he.frm.gr g) (he.env.gr g)
 have H3 : Hid (∀ w', Gr w w' -> Calls Tryz.prog 20 #[.agg #[.int .i64 k, .int .i64 mk, .int .i64 r, .int .i64 n, .slice a1 L.length e1, .int .i64 s, .int .i64 y, .string md, .slice a2 T.length e2, .string a, .int .i64 v, .string d, .slice a3 S.length e3, .string t], .agg #[.int .i64 k2, .int .i64 mk2, .int .i64 r2, .int .i64 n2, .slice b1 L2.length f1, .int .i64 s2, .int .i64 y2, .string md2, .slice b2 T2.length f2, .string aa, .int .i64 v2, .string d2, .slice b3 S2.length f3, .string t2]] w' fun e w2 => e = .returned (.bool (eqR (⟨k, ⟨mk, r, n, L, s, y, md, T⟩, a, v, d, S, t⟩ : Rc) (⟨k2, ⟨mk2, r2, n2, L2, s2, y2, md2, T2⟩, aa, v2, d2, S2, t2⟩ : Rc))) /\ Gr w' w2) := fun w' g => sameR_any k mk r n L s y md T a v d S t k2 mk2 r2 n2 L2 s2 y2 md2 T2 aa v2 d2 S2 t2 a1 e1 a2 e2 a3 e3 b1 f1 b2 f2 b3 f3 w' (h.gr g) (h'.gr g)
 have HQ : Hid (Rc.rcB (⟨k, ⟨mk, r, n, L, s, y, md, T⟩, a, v, d, S, t⟩ : Rc) = true -> Rc.rcB (⟨k2, ⟨mk2, r2, n2, L2, s2, y2, md2, T2⟩, aa, v2, d2, S2, t2⟩ : Rc) = true -> ((⟨(Rc.encL (⟨k, ⟨mk, r, n, L, s, y, md, T⟩, a, v, d, S, t⟩ : Rc)).toArray⟩ : ByteArray).toList == (⟨(Rc.encL (⟨k2, ⟨mk2, r2, n2, L2, s2, y2, md2, T2⟩, aa, v2, d2, S2, t2⟩ : Rc)).toArray⟩ : ByteArray).toList) = eqR (⟨k, ⟨mk, r, n, L, s, y, md, T⟩, a, v, d, S, t⟩ : Rc) (⟨k2, ⟨mk2, r2, n2, L2, s2, y2, md2, T2⟩, aa, v2, d2, S2, t2⟩ : Rc)) := by
  intro q1 q2
  rw [ByteArray.toList_eq, ByteArray.toList_eq]
  show (Rc.encL (⟨k, ⟨mk, r, n, L, s, y, md, T⟩, a, v, d, S, t⟩ : Rc) == Rc.encL (⟨k2, ⟨mk2, r2, n2, L2, s2, y2, md2, T2⟩, aa, v2, d2, S2, t2⟩ : Rc)) = _
  cases he : eqR (⟨k, ⟨mk, r, n, L, s, y, md, T⟩, a, v, d, S, t⟩ : Rc) (⟨k2, ⟨mk2, r2, n2, L2, s2, y2, md2, T2⟩, aa, v2, d2, S2, t2⟩ : Rc) with
  | true => rw [(eqR_iff _ _).1 he]; simp
  | false =>
   rw [beq_eq_false_iff_ne]
   intro e
   rw [(eqR_iff _ _).2 (Rc.enc_inj q1 q2 e)] at he
   cases he
 generalize (⟨(Rc.encL (⟨k, ⟨mk, r, n, L, s, y, md, T⟩, a, v, d, S, t⟩ : Rc)).toArray⟩ : ByteArray) = E1 at *
 generalize (⟨(Rc.encL (⟨k2, ⟨mk2, r2, n2, L2, s2, y2, md2, T2⟩, aa, v2, d2, S2, t2⟩ : Rc)).toArray⟩ : ByteArray) = E2 at *
 generalize eqR (⟨k, ⟨mk, r, n, L, s, y, md, T⟩, a, v, d, S, t⟩ : Rc) (⟨k2, ⟨mk2, r2, n2, L2, s2, y2, md2, T2⟩, aa, v2, d2, S2, t2⟩ : Rc) = bE at *
 generalize fewB (⟨k, ⟨mk, r, n, L, s, y, md, T⟩, a, v, d, S, t⟩ : Rc) = bA at *
 generalize fewB (⟨k2, ⟨mk2, r2, n2, L2, s2, y2, md2, T2⟩, aa, v2, d2, S2, t2⟩ : Rc) = bB at *
 generalize Rc.rcB (⟨k, ⟨mk, r, n, L, s, y, md, T⟩, a, v, d, S, t⟩ : Rc) = c1 at *
 generalize Rc.rcB (⟨k2, ⟨mk2, r2, n2, L2, s2, y2, md2, T2⟩, aa, v2, d2, S2, t2⟩ : Rc) = c2 at *
 clear he h h'
 cases bA with
 | false => exact apart1 k mk r n L s y md T a v d S t a1 e1 a2 e2 a3 e3 k2 mk2 r2 n2 L2 s2 y2 md2 T2 aa v2 d2 S2 t2 b1 f1 b2 f2 b3 f3 w E1 E2 HA HW
 | true =>
  cases bB with
  | false => exact apart2 k mk r n L s y md T a v d S t a1 e1 a2 e2 a3 e3 k2 mk2 r2 n2 L2 s2 y2 md2 T2 aa v2 d2 S2 t2 b1 f1 b2 f2 b3 f3 w E1 E2 HA HW HV
  | true =>
   cases c1 with
   | false => exact apart3 k mk r n L s y md T a v d S t a1 e1 a2 e2 a3 e3 k2 mk2 r2 n2 L2 s2 y2 md2 T2 aa v2 d2 S2 t2 b1 f1 b2 f2 b3 f3 w E1 E2 HA _ HW HV H1 H2
   | true =>
    cases c2 with
    | false => exact apart4 k mk r n L s y md T a v d S t a1 e1 a2 e2 a3 e3 k2 mk2 r2 n2 L2 s2 y2 md2 T2 aa v2 d2 S2 t2 b1 f1 b2 f2 b3 f3 w E1 E2 HA HW HV H1 H2
    | true =>
     have hq := HQ.out rfl rfl
     cases bE with
     | false => exact apart5 k mk r n L s y md T a v d S t a1 e1 a2 e2 a3 e3 k2 mk2 r2 n2 L2 s2 y2 md2 T2 aa v2 d2 S2 t2 b1 f1 b2 f2 b3 f3 w E1 E2 HA HW HV H1 H2 H3 hq
     | true => exact apart6 k mk r n L s y md T a v d S t a1 e1 a2 e2 a3 e3 k2 mk2 r2 n2 L2 s2 y2 md2 T2 aa v2 d2 S2 t2 b1 f1 b2 f2 b3 f3 w E1 E2 HA HW HV H1 H2 H3 hq

theorem recordApart_lifted (os : Os) (started : os.Started) (H : Type) (enc : TypeId × Value -> H) :
  ReturnsInHanded {} Tryz.checked os 7 .any (fun w args => (Rows.recordApartSpec.pre enc Tryz.prog Tryz.f7 [] false w args /\ laidMetH Tryz.prog laidL w) /\ sizedMet enc Tryz.prog Tryz.f7 (OpenSpec.ofChange Rows.recordApartSpec) false w args)
   (Rows.recordApartSpec.post enc Tryz.prog Tryz.f7 false true false false) := by
 refine returnsInHanded_of_change_and (C := Tryz.checked) (X := fun w _ => laidMetH Tryz.prog laidL w) (fun _ _ _ hh h => h.of_heap hh) own2 started (by kernel_rfl) Tryz.func7
  (ChangeSpec.witness_shaped (enc := enc) (C := Tryz.checked) (os := os) (X := fun w _ => laidMetH Tryz.prog laidL w) false (World.doorLaid Tryz.prog 400 os) #[.agg #[.int .i64 0, .int .i64 0, .int .i64 0, .int .i64 0, .slice none 0 0, .int .i64 0, .int .i64 0, .string ⟨#[]⟩, .slice none 0 0, .string ⟨#[]⟩, .int .i64 0, .string ⟨#[]⟩, .slice none 0 0, .string ⟨#[]⟩], .agg #[.int .i64 0, .int .i64 0, .int .i64 0, .int .i64 0, .slice none 0 0, .int .i64 0, .int .i64 0, .string ⟨#[]⟩, .slice none 0 0, .string ⟨#[]⟩, .int .i64 0, .string ⟨#[]⟩, .slice none 0 0, .string ⟨#[]⟩]] 8 rfl (World.shaped_of_RefB (by kernel_rfl) (by kernel_rfl)) (by kernel_rfl) (by kernel_rfl) (by kernel_rfl) (door_met os _)) ?_
 intro W base args ds gs before hval0 hW _ hsz0 hL _
 have hval : ∀ (j : Nat) t v, Tryz.f7.params[j]? = some t -> args[j]? = some v -> Value.okWide Tryz.prog W .any base t v := hval0
 have hsz : (DataW.weightsEach Tryz.prog (Tryz.f7.params.toList ++ Rows.recordApartSpec.plain.varTypes Tryz.prog) (ds ++ gs)).all (· <= reachBytes) = true := hsz0
 have hW' := hW
 obtain ⟨p, q, hA0, hV, rfl, hfz, hnd⟩ := hW
 have hA : DataW.TrodAll enc Tryz.prog W 0 (fun _ => true) true Tryz.f7.params.toList args.toList ds p := hA0
 rw [Tryz.params7] at hA hval hsz
 obtain ⟨v0, v1, d0, d1, p0, p1, rfl, rfl, rfl, h0, h1⟩ := trodAll_two hA
 obtain ⟨rfl, rfl⟩ := trodVars_none hV
 have k0 := h0
 have lt0 : ∀ x ∈ p0, x.block < W.heap.size := by obtain ⟨m, hm⟩ := k0; exact DataW.trod_lt m _ _ _ hm
 have k1 := h1
 have lt1 : ∀ x ∈ p1, x.block < W.heap.size := by obtain ⟨m, hm⟩ := k1; exact DataW.trod_lt m _ _ _ hm
 obtain ⟨x0, u0, f0, y0, g0, z0, i0, rfl, hI0⟩ := open_rec (hval 0 31 v0 rfl rfl) h0
 obtain ⟨x1, u1, f1, y1, g1, z1, i1, rfl, hI1⟩ := open_rec (hval 1 31 v1 rfl rfl) h1
 clear hA0 hval0
 have hT := env_of_laid hL
 refine (recordApart_walk x0.k x0.m.k x0.m.r x0.m.n x0.m.L x0.m.s x0.m.y x0.m.d x0.m.S x0.a x0.v x0.d x0.S x0.t u0 f0 y0 g0 z0 i0 x1.k x1.m.k x1.m.r x1.m.n x1.m.L x1.m.s x1.m.y x1.m.d x1.m.S x1.a x1.v x1.d x1.S x1.t u1 f1 y1 g1 z1 i1 W hT hI0 hI1).mono fun e W' ⟨he, hg⟩ => ?_
 subst he
 exact ⟨_, rfl, _, _, _, [], _, [], hW', trodAll_mk1 (shut_bool Tryz.underlying4 _), trodAll_mk2 (Below.trod laidOut2 (by kernel_rfl) (of_decide_eq_true (by kernel_rfl)) k0 hg.below lt0) (Below.trod laidOut2 (by kernel_rfl) (of_decide_eq_true (by kernel_rfl)) k1 hg.below lt1), rfl, hg.below.frame _, fun h => by cases h⟩

theorem recordApart_holds : Rows.RecordApartSaid :=
 OpenClaim.holds_of_wide 7 Tryz.f7 rfl rfl rfl rfl rfl rfl rfl ⟨rfl, rfl, rfl, rfl, rfl⟩ rfl rfl rfl rfl rfl (by kernel_rfl) Tryz.func7 (by kernel_rfl)
  (of_decide_eq_true (by kernel_rfl)) (by unfold Func.isWrapper; first | (rw [if_pos (by decide +kernel)]; kernel_rfl) | (rw [if_neg (by decide +kernel)]; exact ⟨rfl, rfl⟩))
  (fun os started H enc _ => recordApart_lifted os started H enc)

theorem recordApart_card_holds : Rows.RecordApartCardSaid :=
 Claim7.holds_tied_plain_at .later [] [.data, .data, .data, .sentinel, .sentinel, .data] true (true, "5e01d08355a620625b7217d8cd0ac96b317f0158d9cea4c397742b982576dae0") true
  recordApart_holds (fun _ h => by cases h) (by kernel_rfl) (fun _ h => by cases h) recordApart_row_tie rfl ⟨rfl, rfl⟩ (by kernel_rfl) rfl
  (fun f fn hf hfn => by
   obtain rfl : f = 7 := Option.some.inj ((show Tryz.prog.funcNamed "entente/ententelaw14.RecordApart" = some 7 by kernel_rfl).symm.trans hf) |>.symm
   obtain rfl : fn = Tryz.f7 := (Option.some.inj (Tryz.func7.symm.trans hfn)).symm
   exact ⟨by kernel_rfl, fun j t ht => by
    rw [Tryz.params7] at ht
    have hm : t ∈ [31, 31] := by simpa using Array.mem_of_getElem? ht
    have hall : ([31, 31].all fun u => !Tryz.prog.wantsStandIn u) = true := by kernel_rfl
    exact (show Tryz.prog.wantsStandIn t = false by simpa using List.all_eq_true.1 hall t hm)⟩)
  (by kernel_rfl)
end Go.Proofs.YthaadiclopoamaaGreatDoor
