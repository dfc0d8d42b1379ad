/- Parts of these proofs, laid together. -/
import Derived.Test.YthaadiclopoamaaGreatDoorGS
/- record: a reader's record. -/
set_option maxRecDepth 100000
set_option maxHeartbeats 8000000
namespace Go.Proofs.YthaadiclopoamaaGreatDoor
open Go.RowKit
open Df (Stp)

/- what Record answers -/
def RrcR (g : Nat) (X : Rc) (w : World) (e : Ending) (w' : World) : Prop :=
 ∃ a1 c1 a2 c2 a3 c3, e = .returned (.agg #[.int .i64 X.k, .int .i64 X.m.k, .int .i64 X.m.r, .int .i64 X.m.n, .slice a1 X.m.L.length c1, .int .i64 X.m.s, .int .i64 X.m.y, .string X.m.d, .slice a2 X.m.S.length c2, .string X.a, .int .i64 X.v, .string X.d, .slice a3 X.S.length c3, .string X.t]) /\ HopsAt w' a1 X.m.L /\ StpsAt w' a2 X.m.S /\ StpsAt w' a3 X.S /\ (∀ a, a1 = some a -> w.heap.size < a.block) /\ (∀ a, a2 = some a -> w.heap.size < a.block) /\ (∀ a, a3 = some a -> w.heap.size < a.block) /\ GB g w w'

theorem rrec1 (g : Nat) (s : ByteArray) (w0 w : World) (h : Rdr w g s ((0 : Nat) : Int)) (hs : s.size <= 140737488355328) (he : Env w0) (h0 : Gr w0 w) (hb : w0.heap.size <= g) (hk : Rc.nv s.data.toList 0 = 1) :
  Calls Tryz.prog 49 #[.pointer (some ⟨g, 0, none⟩)] w fun e w' => RrcR g ⟨1, Rc.rdM s.data.toList (Rc.np s.data.toList 0), ⟨#[]⟩, 0, ⟨#[]⟩, [], ⟨#[]⟩⟩ w e w' := by
 have H1 : Hid (∀ (w' : World), Rdr w' g s ((0 : Nat) : Int) -> Calls Tryz.prog 69 #[.pointer (some ⟨g, 0, none⟩)] w' fun e w2 => e = .returned (.int .i64 (Rc.nv s.data.toList 0)) /\ Rdr w2 g s (Rc.np s.data.toList 0 : Nat) /\ GB g w' w2) := fun w' h' => rnum_any g s 0 w' h' hs
 unfold RrcR
 rw [hk] at H1
 have H2 : Hid (∀ (w' : World), Gr w0 w' -> Rdr w' g s ((Rc.np s.data.toList 0 : Nat) : Int) -> Calls Tryz.prog 70 #[.pointer (some ⟨g, 0, none⟩)] w' fun e w2 => RmvR g s.data.toList (Rc.np s.data.toList 0) w' e w2) := fun w' g' h' => rmv_any g s _ w0 w' h' hs he g' hb
 unfold RmvR at H2
 generalize Rc.rdM s.data.toList (Rc.np s.data.toList 0) = M at *
 obtain ⟨mk, mr, mn, mL, ms, my, md, mS⟩ := M
 simp only at H2
 generalize Rc.np s.data.toList 0 = p1 at *
 have hlt := h.lt
 have hsz0 := h0.size
 have hne : w.heap.size ≠ g := by omega
 have HW : Hid (Rdr w g s ((0 : Nat) : Int)) := h
 have HG0 : Hid (Gr w0 w) := h0
 clear h h0 he hs
 go_enter Tryz.func49, Tryz.ntmps49
 go_wp2_with fail
 refine (H1.out _ HW.out.alloc).mono ?_
 rintro e1 w1 ⟨rfl, h1, g1⟩
 have R1 : Hid (Cs w1 w.heap.size [.int .i64 0, .int .i64 0, .int .i64 0, .int .i64 0, .slice none 0 0, .int .i64 0, .int .i64 0, .string ⟨#[]⟩, .slice none 0 0, .string ⟨#[]⟩, .int .i64 0, .string ⟨#[]⟩, .slice none 0 0, .string ⟨#[]⟩]) := g1.cs (Cs.new w [.int .i64 0, .int .i64 0, .int .i64 0, .int .i64 0, .slice none 0 0, .int .i64 0, .int .i64 0, .string ⟨#[]⟩, .slice none 0 0, .string ⟨#[]⟩, .int .i64 0, .string ⟨#[]⟩, .slice none 0 0, .string ⟨#[]⟩] 31 _ rfl) hne
 have P1 := Lib.hid h1
 have K1 : Hid (GB g w w1) := GB.trans (GB.refl g w).alloc g1
 have G1 : Hid (Gr w0 w1) := Gr.gb HG0.out.alloc g1 hb
 have lt1 : w.heap.size < w1.heap.size := R1.out.lt
 clear h1 g1
 have r1 := R1.out
 obtain ⟨c0, c1, c2, c3, c4, c5, c6, c7, c8, c9, c10, c11, c12, c13, cf0, cf1, cf2, cf3, cf4, cf5, cf6, cf7, cf8, cf9, cf10, cf11, cf12, cf13, clt⟩ := r1.d14
 clear r1
 go_wp2_with fail
 refine (H2.out _ (G1.out.set ⟨w.heap.size, 0, none⟩ (by show w0.heap.size <= w.heap.size; omega) (.int .i64 1)) (P1.out.far ⟨w.heap.size, 0, none⟩ (.int .i64 1) hne)).mono ?_
 rintro e2 w2 ⟨ad1, cap1, ad2, cap2, rfl, hia, hib, hf1, hf2, g2⟩
 have R2 : Hid (Cs w2 w.heap.size [.int .i64 1, .int .i64 0, .int .i64 0, .int .i64 0, .slice none 0 0, .int .i64 0, .int .i64 0, .string ⟨#[]⟩, .slice none 0 0, .string ⟨#[]⟩, .int .i64 0, .string ⟨#[]⟩, .slice none 0 0, .string ⟨#[]⟩]) := g2.cs (R1.out.set 0 (by simp) (.int .i64 1)) hne
 have K2 : Hid (GB g w w2) := GB.trans (K1.out.setNew ⟨w.heap.size, 0, none⟩ (.int .i64 1) (Or.inl (Nat.le_refl _))) g2
 have G2 : Hid (Gr w0 w2) := Gr.gb (G1.out.set ⟨w.heap.size, 0, none⟩ (by show w0.heap.size <= w.heap.size; omega) (.int .i64 1)) g2 hb
 have lt2 : w.heap.size < w2.heap.size := R2.out.lt
 have F1 : Hid (∀ a, ad1 = some a -> w1.heap.size < a.block) := fun a e => by have := hf1 a e; simpa using this
 have F2 : Hid (∀ a, ad2 = some a -> w1.heap.size < a.block) := fun a e => by have := hf2 a e; simpa using this
 have HH := Lib.hid hia
 have HS := Lib.hid hib
 clear hia hib hf1 hf2
 clear g2
 clear c0 cf0 c1 cf1 c2 cf2 c3 cf3 c4 cf4 c5 cf5 c6 cf6 c7 cf7 c8 cf8 c9 cf9 c10 cf10 c11 cf11 c12 cf12 c13 cf13 clt
 have r2 := R2.out
 obtain ⟨c0, c1, c2, c3, c4, c5, c6, c7, c8, c9, c10, c11, c12, c13, cf0, cf1, cf2, cf3, cf4, cf5, cf6, cf7, cf8, cf9, cf10, cf11, cf12, cf13, clt⟩ := r2.d14
 clear r2
 go_wp2
 have Q := Cs.fill14 ((((((((R2.out.set 1 (by simp) (.int .i64 mk)).set 2 (by simp) (.int .i64 mr)).set 3 (by simp) (.int .i64 mn)).set 4 (by simp) (.slice ad1 mL.length cap1)).set 5 (by simp) (.int .i64 ms)).set 6 (by simp) (.int .i64 my)).set 7 (by simp) (.string md)).set 8 (by simp) (.slice ad2 mS.length cap2)) rfl (.int .i64 1) (.int .i64 mk) (.int .i64 mr) (.int .i64 mn) (.slice ad1 mL.length cap1) (.int .i64 ms) (.int .i64 my) (.string md) (.slice ad2 mS.length cap2) (.string ⟨#[]⟩) (.int .i64 0) (.string ⟨#[]⟩) (.slice none 0 0) (.string ⟨#[]⟩)
 obtain ⟨k0, k1, k2, k3, k4, k5, k6, k7, k8, k9, k10, k11, k12, k13, klt⟩ := Q.c14
 clear Q c0 cf0 c1 cf1 c2 cf2 c3 cf3 c4 cf4 c5 cf5 c6 cf6 c7 cf7 c8 cf8 c9 cf9 c10 cf10 c11 cf11 c12 cf12 c13 cf13
 have hne1 : ∀ a, ad1 = some a -> w.heap.size ≠ a.block := fun a e => by have := F1.out a e; omega
 have hne2 : ∀ a, ad2 = some a -> w.heap.size ≠ a.block := fun a e => by have := F2.out a e; omega
 exact bodyPost_ret (v := .agg #[.int .i64 1, .int .i64 mk, .int .i64 mr, .int .i64 mn, .slice ad1 mL.length cap1, .int .i64 ms, .int .i64 my, .string md, .slice ad2 mS.length cap2, .string ⟨#[]⟩, .int .i64 0, .string ⟨#[]⟩, .slice none 0 0, .string ⟨#[]⟩]) (by simp [results, Tryz.results49, go_sem, *]) rfl ⟨ad1, cap1, ad2, cap2, none, 0, rfl, ((((((((HH.out.set ⟨w.heap.size, 1, none⟩ (.int .i64 mk) hne1).set ⟨w.heap.size, 2, none⟩ (.int .i64 mr) hne1).set ⟨w.heap.size, 3, none⟩ (.int .i64 mn) hne1).set ⟨w.heap.size, 4, none⟩ (.slice ad1 mL.length cap1) hne1).set ⟨w.heap.size, 5, none⟩ (.int .i64 ms) hne1).set ⟨w.heap.size, 6, none⟩ (.int .i64 my) hne1).set ⟨w.heap.size, 7, none⟩ (.string md) hne1).set ⟨w.heap.size, 8, none⟩ (.slice ad2 mS.length cap2) hne1).far14 w.heap.size hne1 _ _ _ _ _ _ _ _ _ _ _ _ _ _, ((((((((HS.out.far ⟨w.heap.size, 1, none⟩ (.int .i64 mk) hne2).far ⟨w.heap.size, 2, none⟩ (.int .i64 mr) hne2).far ⟨w.heap.size, 3, none⟩ (.int .i64 mn) hne2).far ⟨w.heap.size, 4, none⟩ (.slice ad1 mL.length cap1) hne2).far ⟨w.heap.size, 5, none⟩ (.int .i64 ms) hne2).far ⟨w.heap.size, 6, none⟩ (.int .i64 my) hne2).far ⟨w.heap.size, 7, none⟩ (.string md) hne2).far ⟨w.heap.size, 8, none⟩ (.slice ad2 mS.length cap2) hne2).far14 w.heap.size hne2 _ _ _ _ _ _ _ _ _ _ _ _ _ _, RowAt.nil, fun a e => by have := F1.out a e; omega, fun a e => by have := F2.out a e; omega, fun a e => (by cases e), ((((((((((((((((((((((K2.out.setNew ⟨w.heap.size, 1, none⟩ (.int .i64 mk) (Or.inl (Nat.le_refl _))).setNew ⟨w.heap.size, 2, none⟩ (.int .i64 mr) (Or.inl (Nat.le_refl _))).setNew ⟨w.heap.size, 3, none⟩ (.int .i64 mn) (Or.inl (Nat.le_refl _))).setNew ⟨w.heap.size, 4, none⟩ (.slice ad1 mL.length cap1) (Or.inl (Nat.le_refl _))).setNew ⟨w.heap.size, 5, none⟩ (.int .i64 ms) (Or.inl (Nat.le_refl _))).setNew ⟨w.heap.size, 6, none⟩ (.int .i64 my) (Or.inl (Nat.le_refl _))).setNew ⟨w.heap.size, 7, none⟩ (.string md) (Or.inl (Nat.le_refl _))).setNew ⟨w.heap.size, 8, none⟩ (.slice ad2 mS.length cap2) (Or.inl (Nat.le_refl _))).setNew _ _ (Or.inl (Nat.le_refl _))).setNew _ _ (Or.inl (Nat.le_refl _))).setNew _ _ (Or.inl (Nat.le_refl _))).setNew _ _ (Or.inl (Nat.le_refl _))).setNew _ _ (Or.inl (Nat.le_refl _))).setNew _ _ (Or.inl (Nat.le_refl _))).setNew _ _ (Or.inl (Nat.le_refl _))).setNew _ _ (Or.inl (Nat.le_refl _))).setNew _ _ (Or.inl (Nat.le_refl _))).setNew _ _ (Or.inl (Nat.le_refl _))).setNew _ _ (Or.inl (Nat.le_refl _))).setNew _ _ (Or.inl (Nat.le_refl _))).setNew _ _ (Or.inl (Nat.le_refl _))).setNew _ _ (Or.inl (Nat.le_refl _)))⟩

theorem rrec2 (g : Nat) (s : ByteArray) (w0 w : World) (h : Rdr w g s ((0 : Nat) : Int)) (hs : s.size <= 140737488355328) (_he : Env w0) (h0 : Gr w0 w) (hb : w0.heap.size <= g) (hk : Rc.nv s.data.toList 0 = 2) :
  Calls Tryz.prog 49 #[.pointer (some ⟨g, 0, none⟩)] w fun e w' => RrcR g ⟨2, Rc.zM, ⟨(Rc.tv s.data.toList (Rc.np s.data.toList 0)).toArray⟩, Rc.av s.data.toList (Rc.tp s.data.toList (Rc.np s.data.toList 0)), ⟨#[]⟩, [], ⟨#[]⟩⟩ w e w' := by
 have H1 : Hid (∀ (w' : World), Rdr w' g s ((0 : Nat) : Int) -> Calls Tryz.prog 69 #[.pointer (some ⟨g, 0, none⟩)] w' fun e w2 => e = .returned (.int .i64 (Rc.nv s.data.toList 0)) /\ Rdr w2 g s (Rc.np s.data.toList 0 : Nat) /\ GB g w' w2) := fun w' h' => rnum_any g s 0 w' h' hs
 unfold RrcR
 rw [hk] at H1
 have H2 : Hid (∀ (w' : World), Rdr w' g s ((Rc.np s.data.toList 0 : Nat) : Int) -> Calls Tryz.prog 71 #[.pointer (some ⟨g, 0, none⟩)] w' fun e w2 => e = .returned (.string ⟨(Rc.tv s.data.toList (Rc.np s.data.toList 0)).toArray⟩) /\ Rdr w2 g s (Rc.tp s.data.toList (Rc.np s.data.toList 0) : Nat) /\ GB g w' w2) := fun w' h' => rtxt_any g s _ w' h' hs
 have H3 : Hid (∀ (w' : World), Rdr w' g s ((Rc.tp s.data.toList (Rc.np s.data.toList 0) : Nat) : Int) -> Calls Tryz.prog 72 #[.pointer (some ⟨g, 0, none⟩)] w' fun e w2 => e = .returned (.int .i64 (Rc.av s.data.toList (Rc.tp s.data.toList (Rc.np s.data.toList 0)))) /\ Rdr w2 g s (Rc.np s.data.toList (Rc.tp s.data.toList (Rc.np s.data.toList 0)) : Nat) /\ GB g w' w2) := fun w' h' => ramt_any g s _ w' h' hs
 generalize Rc.np s.data.toList 0 = p1 at *
 generalize Rc.tv s.data.toList p1 = t2 at *
 generalize Rc.tp s.data.toList p1 = p2 at *
 generalize Rc.av s.data.toList p2 = v3 at *
 generalize Rc.np s.data.toList p2 = p3 at *
 have hlt := h.lt
 have hsz0 := h0.size
 have hne : w.heap.size ≠ g := by omega
 have HW : Hid (Rdr w g s ((0 : Nat) : Int)) := h
 have HG0 : Hid (Gr w0 w) := h0
 clear h h0 hs
 go_enter Tryz.func49, Tryz.ntmps49
 go_wp2_with fail
 refine (H1.out _ HW.out.alloc).mono ?_
 rintro e1 w1 ⟨rfl, h1, g1⟩
 have R1 : Hid (Cs w1 w.heap.size [.int .i64 0, .int .i64 0, .int .i64 0, .int .i64 0, .slice none 0 0, .int .i64 0, .int .i64 0, .string ⟨#[]⟩, .slice none 0 0, .string ⟨#[]⟩, .int .i64 0, .string ⟨#[]⟩, .slice none 0 0, .string ⟨#[]⟩]) := g1.cs (Cs.new w [.int .i64 0, .int .i64 0, .int .i64 0, .int .i64 0, .slice none 0 0, .int .i64 0, .int .i64 0, .string ⟨#[]⟩, .slice none 0 0, .string ⟨#[]⟩, .int .i64 0, .string ⟨#[]⟩, .slice none 0 0, .string ⟨#[]⟩] 31 _ rfl) hne
 have P1 := Lib.hid h1
 have K1 : Hid (GB g w w1) := GB.trans (GB.refl g w).alloc g1
 have G1 : Hid (Gr w0 w1) := Gr.gb HG0.out.alloc g1 hb
 have lt1 : w.heap.size < w1.heap.size := R1.out.lt
 clear h1 g1
 have r1 := R1.out
 obtain ⟨c0, c1, c2, c3, c4, c5, c6, c7, c8, c9, c10, c11, c12, c13, cf0, cf1, cf2, cf3, cf4, cf5, cf6, cf7, cf8, cf9, cf10, cf11, cf12, cf13, clt⟩ := r1.d14
 clear r1
 go_wp2_with fail
 refine (H2.out _ (P1.out.far ⟨w.heap.size, 0, none⟩ (.int .i64 2) hne)).mono ?_
 rintro e2 w2 ⟨rfl, h2, g2⟩
 have R2 : Hid (Cs w2 w.heap.size [.int .i64 2, .int .i64 0, .int .i64 0, .int .i64 0, .slice none 0 0, .int .i64 0, .int .i64 0, .string ⟨#[]⟩, .slice none 0 0, .string ⟨#[]⟩, .int .i64 0, .string ⟨#[]⟩, .slice none 0 0, .string ⟨#[]⟩]) := g2.cs (R1.out.set 0 (by simp) (.int .i64 2)) hne
 have P2 := Lib.hid h2
 have K2 : Hid (GB g w w2) := GB.trans (K1.out.setNew ⟨w.heap.size, 0, none⟩ (.int .i64 2) (Or.inl (Nat.le_refl _))) g2
 have G2 : Hid (Gr w0 w2) := Gr.gb (G1.out.set ⟨w.heap.size, 0, none⟩ (by show w0.heap.size <= w.heap.size; omega) (.int .i64 2)) g2 hb
 have lt2 : w.heap.size < w2.heap.size := R2.out.lt
 clear h2 g2
 clear c0 cf0 c1 cf1 c2 cf2 c3 cf3 c4 cf4 c5 cf5 c6 cf6 c7 cf7 c8 cf8 c9 cf9 c10 cf10 c11 cf11 c12 cf12 c13 cf13 clt
 have r2 := R2.out
 obtain ⟨c0, c1, c2, c3, c4, c5, c6, c7, c8, c9, c10, c11, c12, c13, cf0, cf1, cf2, cf3, cf4, cf5, cf6, cf7, cf8, cf9, cf10, cf11, cf12, cf13, clt⟩ := r2.d14
 clear r2
 go_wp2_with fail
 refine (H3.out _ (P2.out.far ⟨w.heap.size, 9, none⟩ (.string ⟨t2.toArray⟩) hne)).mono ?_
 rintro e3 w3 ⟨rfl, h3, g3⟩
 have R3 : Hid (Cs w3 w.heap.size [.int .i64 2, .int .i64 0, .int .i64 0, .int .i64 0, .slice none 0 0, .int .i64 0, .int .i64 0, .string ⟨#[]⟩, .slice none 0 0, .string ⟨t2.toArray⟩, .int .i64 0, .string ⟨#[]⟩, .slice none 0 0, .string ⟨#[]⟩]) := g3.cs (R2.out.set 9 (by simp) (.string ⟨t2.toArray⟩)) hne
 have P3 := Lib.hid h3
 have K3 : Hid (GB g w w3) := GB.trans (K2.out.setNew ⟨w.heap.size, 9, none⟩ (.string ⟨t2.toArray⟩) (Or.inl (Nat.le_refl _))) g3
 have G3 : Hid (Gr w0 w3) := Gr.gb (G2.out.set ⟨w.heap.size, 9, none⟩ (by show w0.heap.size <= w.heap.size; omega) (.string ⟨t2.toArray⟩)) g3 hb
 have lt3 : w.heap.size < w3.heap.size := R3.out.lt
 clear h3 g3
 clear c0 cf0 c1 cf1 c2 cf2 c3 cf3 c4 cf4 c5 cf5 c6 cf6 c7 cf7 c8 cf8 c9 cf9 c10 cf10 c11 cf11 c12 cf12 c13 cf13 clt
 have r3 := R3.out
 obtain ⟨c0, c1, c2, c3, c4, c5, c6, c7, c8, c9, c10, c11, c12, c13, cf0, cf1, cf2, cf3, cf4, cf5, cf6, cf7, cf8, cf9, cf10, cf11, cf12, cf13, clt⟩ := r3.d14
 clear r3
 go_wp2
 have Q := Cs.fill14 (R3.out.set 10 (by simp) (.int .i64 v3)) rfl (.int .i64 2) (.int .i64 0) (.int .i64 0) (.int .i64 0) (.slice none 0 0) (.int .i64 0) (.int .i64 0) (.string ⟨#[]⟩) (.slice none 0 0) (.string ⟨t2.toArray⟩) (.int .i64 v3) (.string ⟨#[]⟩) (.slice none 0 0) (.string ⟨#[]⟩)
 obtain ⟨k0, k1, k2, k3, k4, k5, k6, k7, k8, k9, k10, k11, k12, k13, klt⟩ := Q.c14
 clear Q c0 cf0 c1 cf1 c2 cf2 c3 cf3 c4 cf4 c5 cf5 c6 cf6 c7 cf7 c8 cf8 c9 cf9 c10 cf10 c11 cf11 c12 cf12 c13 cf13
 exact bodyPost_ret (v := .agg #[.int .i64 2, .int .i64 0, .int .i64 0, .int .i64 0, .slice none 0 0, .int .i64 0, .int .i64 0, .string ⟨#[]⟩, .slice none 0 0, .string ⟨t2.toArray⟩, .int .i64 v3, .string ⟨#[]⟩, .slice none 0 0, .string ⟨#[]⟩]) (by simp [results, Tryz.results49, go_sem, *]) rfl ⟨none, 0, none, 0, none, 0, rfl, HopsAt.nil, RowAt.nil, RowAt.nil, fun a e => (by cases e), fun a e => (by cases e), fun a e => (by cases e), (((((((((((((((K3.out.setNew ⟨w.heap.size, 10, none⟩ (.int .i64 v3) (Or.inl (Nat.le_refl _))).setNew _ _ (Or.inl (Nat.le_refl _))).setNew _ _ (Or.inl (Nat.le_refl _))).setNew _ _ (Or.inl (Nat.le_refl _))).setNew _ _ (Or.inl (Nat.le_refl _))).setNew _ _ (Or.inl (Nat.le_refl _))).setNew _ _ (Or.inl (Nat.le_refl _))).setNew _ _ (Or.inl (Nat.le_refl _))).setNew _ _ (Or.inl (Nat.le_refl _))).setNew _ _ (Or.inl (Nat.le_refl _))).setNew _ _ (Or.inl (Nat.le_refl _))).setNew _ _ (Or.inl (Nat.le_refl _))).setNew _ _ (Or.inl (Nat.le_refl _))).setNew _ _ (Or.inl (Nat.le_refl _))).setNew _ _ (Or.inl (Nat.le_refl _)))⟩

theorem rrec3 (g : Nat) (s : ByteArray) (w0 w : World) (h : Rdr w g s ((0 : Nat) : Int)) (hs : s.size <= 140737488355328) (_he : Env w0) (h0 : Gr w0 w) (hb : w0.heap.size <= g) (hk : Rc.nv s.data.toList 0 = 3) :
  Calls Tryz.prog 49 #[.pointer (some ⟨g, 0, none⟩)] w fun e w' => RrcR g ⟨3, Rc.zM, ⟨#[]⟩, 0, tN (Rc.tv s.data.toList (Rc.np s.data.toList 0)), tL (Rc.tv s.data.toList (Rc.np s.data.toList 0)), ⟨#[]⟩⟩ w e w' := by
 have H1 : Hid (∀ (w' : World), Rdr w' g s ((0 : Nat) : Int) -> Calls Tryz.prog 69 #[.pointer (some ⟨g, 0, none⟩)] w' fun e w2 => e = .returned (.int .i64 (Rc.nv s.data.toList 0)) /\ Rdr w2 g s (Rc.np s.data.toList 0 : Nat) /\ GB g w' w2) := fun w' h' => rnum_any g s 0 w' h' hs
 unfold RrcR
 rw [hk] at H1
 have H2 : Hid (∀ (w' : World), Rdr w' g s ((Rc.np s.data.toList 0 : Nat) : Int) -> Calls Tryz.prog 73 #[.pointer (some ⟨g, 0, none⟩)] w' fun e w2 => RdfR g s (Rc.np s.data.toList 0) w' e w2) := fun w' h' => rdf_any g s _ w' h' hs
 unfold RdfR at H2
 generalize Rc.np s.data.toList 0 = p1 at *
 generalize tN (Rc.tv s.data.toList p1) = dn at *
 generalize tL (Rc.tv s.data.toList p1) = dS at *
 generalize Rc.tp s.data.toList p1 = p2 at *
 have hlt := h.lt
 have hsz0 := h0.size
 have hne : w.heap.size ≠ g := by omega
 have HW : Hid (Rdr w g s ((0 : Nat) : Int)) := h
 have HG0 : Hid (Gr w0 w) := h0
 clear h h0 hs
 go_enter Tryz.func49, Tryz.ntmps49
 go_wp2_with fail
 refine (H1.out _ HW.out.alloc).mono ?_
 rintro e1 w1 ⟨rfl, h1, g1⟩
 have R1 : Hid (Cs w1 w.heap.size [.int .i64 0, .int .i64 0, .int .i64 0, .int .i64 0, .slice none 0 0, .int .i64 0, .int .i64 0, .string ⟨#[]⟩, .slice none 0 0, .string ⟨#[]⟩, .int .i64 0, .string ⟨#[]⟩, .slice none 0 0, .string ⟨#[]⟩]) := g1.cs (Cs.new w [.int .i64 0, .int .i64 0, .int .i64 0, .int .i64 0, .slice none 0 0, .int .i64 0, .int .i64 0, .string ⟨#[]⟩, .slice none 0 0, .string ⟨#[]⟩, .int .i64 0, .string ⟨#[]⟩, .slice none 0 0, .string ⟨#[]⟩] 31 _ rfl) hne
 have P1 := Lib.hid h1
 have K1 : Hid (GB g w w1) := GB.trans (GB.refl g w).alloc g1
 have G1 : Hid (Gr w0 w1) := Gr.gb HG0.out.alloc g1 hb
 have lt1 : w.heap.size < w1.heap.size := R1.out.lt
 clear h1 g1
 have r1 := R1.out
 obtain ⟨c0, c1, c2, c3, c4, c5, c6, c7, c8, c9, c10, c11, c12, c13, cf0, cf1, cf2, cf3, cf4, cf5, cf6, cf7, cf8, cf9, cf10, cf11, cf12, cf13, clt⟩ := r1.d14
 clear r1
 go_wp2_with fail
 refine (H2.out _ (P1.out.far ⟨w.heap.size, 0, none⟩ (.int .i64 3) hne)).mono ?_
 rintro e2 w2 ⟨ad3, cap3, rfl, hib, hf3, h2, g2⟩
 have R2 : Hid (Cs w2 w.heap.size [.int .i64 3, .int .i64 0, .int .i64 0, .int .i64 0, .slice none 0 0, .int .i64 0, .int .i64 0, .string ⟨#[]⟩, .slice none 0 0, .string ⟨#[]⟩, .int .i64 0, .string ⟨#[]⟩, .slice none 0 0, .string ⟨#[]⟩]) := g2.cs (R1.out.set 0 (by simp) (.int .i64 3)) hne
 have P2 := Lib.hid h2
 have K2 : Hid (GB g w w2) := GB.trans (K1.out.setNew ⟨w.heap.size, 0, none⟩ (.int .i64 3) (Or.inl (Nat.le_refl _))) g2
 have G2 : Hid (Gr w0 w2) := Gr.gb (G1.out.set ⟨w.heap.size, 0, none⟩ (by show w0.heap.size <= w.heap.size; omega) (.int .i64 3)) g2 hb
 have lt2 : w.heap.size < w2.heap.size := R2.out.lt
 have F3 : Hid (∀ a, ad3 = some a -> w1.heap.size < a.block) := fun a e => by have := hf3 a e; simpa using this
 have HS := Lib.hid hib
 clear hib hf3
 clear h2 g2
 clear c0 cf0 c1 cf1 c2 cf2 c3 cf3 c4 cf4 c5 cf5 c6 cf6 c7 cf7 c8 cf8 c9 cf9 c10 cf10 c11 cf11 c12 cf12 c13 cf13 clt
 have r2 := R2.out
 obtain ⟨c0, c1, c2, c3, c4, c5, c6, c7, c8, c9, c10, c11, c12, c13, cf0, cf1, cf2, cf3, cf4, cf5, cf6, cf7, cf8, cf9, cf10, cf11, cf12, cf13, clt⟩ := r2.d14
 clear r2
 go_wp2
 have Q := Cs.fill14 ((R2.out.set 11 (by simp) (.string dn)).set 12 (by simp) (.slice ad3 dS.length cap3)) rfl (.int .i64 3) (.int .i64 0) (.int .i64 0) (.int .i64 0) (.slice none 0 0) (.int .i64 0) (.int .i64 0) (.string ⟨#[]⟩) (.slice none 0 0) (.string ⟨#[]⟩) (.int .i64 0) (.string dn) (.slice ad3 dS.length cap3) (.string ⟨#[]⟩)
 obtain ⟨k0, k1, k2, k3, k4, k5, k6, k7, k8, k9, k10, k11, k12, k13, klt⟩ := Q.c14
 clear Q c0 cf0 c1 cf1 c2 cf2 c3 cf3 c4 cf4 c5 cf5 c6 cf6 c7 cf7 c8 cf8 c9 cf9 c10 cf10 c11 cf11 c12 cf12 c13 cf13
 have hne3 : ∀ a, ad3 = some a -> w.heap.size ≠ a.block := fun a e => by have := F3.out a e; omega
 exact bodyPost_ret (v := .agg #[.int .i64 3, .int .i64 0, .int .i64 0, .int .i64 0, .slice none 0 0, .int .i64 0, .int .i64 0, .string ⟨#[]⟩, .slice none 0 0, .string ⟨#[]⟩, .int .i64 0, .string dn, .slice ad3 dS.length cap3, .string ⟨#[]⟩]) (by simp [results, Tryz.results49, go_sem, *]) rfl ⟨none, 0, none, 0, ad3, cap3, rfl, HopsAt.nil, RowAt.nil, ((HS.out.far ⟨w.heap.size, 11, none⟩ (.string dn) hne3).far ⟨w.heap.size, 12, none⟩ (.slice ad3 dS.length cap3) hne3).far14 w.heap.size hne3 _ _ _ _ _ _ _ _ _ _ _ _ _ _, fun a e => (by cases e), fun a e => (by cases e), fun a e => by have := F3.out a e; omega, ((((((((((((((((K2.out.setNew ⟨w.heap.size, 11, none⟩ (.string dn) (Or.inl (Nat.le_refl _))).setNew ⟨w.heap.size, 12, none⟩ (.slice ad3 dS.length cap3) (Or.inl (Nat.le_refl _))).setNew _ _ (Or.inl (Nat.le_refl _))).setNew _ _ (Or.inl (Nat.le_refl _))).setNew _ _ (Or.inl (Nat.le_refl _))).setNew _ _ (Or.inl (Nat.le_refl _))).setNew _ _ (Or.inl (Nat.le_refl _))).setNew _ _ (Or.inl (Nat.le_refl _))).setNew _ _ (Or.inl (Nat.le_refl _))).setNew _ _ (Or.inl (Nat.le_refl _))).setNew _ _ (Or.inl (Nat.le_refl _))).setNew _ _ (Or.inl (Nat.le_refl _))).setNew _ _ (Or.inl (Nat.le_refl _))).setNew _ _ (Or.inl (Nat.le_refl _))).setNew _ _ (Or.inl (Nat.le_refl _))).setNew _ _ (Or.inl (Nat.le_refl _)))⟩

theorem rrec5 (g : Nat) (s : ByteArray) (w0 w : World) (h : Rdr w g s ((0 : Nat) : Int)) (hs : s.size <= 140737488355328) (_he : Env w0) (h0 : Gr w0 w) (hb : w0.heap.size <= g) (hk : Rc.nv s.data.toList 0 = 5) :
  Calls Tryz.prog 49 #[.pointer (some ⟨g, 0, none⟩)] w fun e w' => RrcR g ⟨5, Rc.zM, ⟨#[]⟩, 0, ⟨#[]⟩, [], ⟨(Rc.tv s.data.toList (Rc.np s.data.toList 0)).toArray⟩⟩ w e w' := by
 have H1 : Hid (∀ (w' : World), Rdr w' g s ((0 : Nat) : Int) -> Calls Tryz.prog 69 #[.pointer (some ⟨g, 0, none⟩)] w' fun e w2 => e = .returned (.int .i64 (Rc.nv s.data.toList 0)) /\ Rdr w2 g s (Rc.np s.data.toList 0 : Nat) /\ GB g w' w2) := fun w' h' => rnum_any g s 0 w' h' hs
 unfold RrcR
 rw [hk] at H1
 have H2 : Hid (∀ (w' : World), Rdr w' g s ((Rc.np s.data.toList 0 : Nat) : Int) -> Calls Tryz.prog 71 #[.pointer (some ⟨g, 0, none⟩)] w' fun e w2 => e = .returned (.string ⟨(Rc.tv s.data.toList (Rc.np s.data.toList 0)).toArray⟩) /\ Rdr w2 g s (Rc.tp s.data.toList (Rc.np s.data.toList 0) : Nat) /\ GB g w' w2) := fun w' h' => rtxt_any g s _ w' h' hs
 generalize Rc.np s.data.toList 0 = p1 at *
 generalize Rc.tv s.data.toList p1 = t2 at *
 generalize Rc.tp s.data.toList p1 = p2 at *
 have hlt := h.lt
 have hsz0 := h0.size
 have hne : w.heap.size ≠ g := by omega
 have HW : Hid (Rdr w g s ((0 : Nat) : Int)) := h
 have HG0 : Hid (Gr w0 w) := h0
 clear h h0 hs
 go_enter Tryz.func49, Tryz.ntmps49
 go_wp2_with fail
 refine (H1.out _ HW.out.alloc).mono ?_
 rintro e1 w1 ⟨rfl, h1, g1⟩
 have R1 : Hid (Cs w1 w.heap.size [.int .i64 0, .int .i64 0, .int .i64 0, .int .i64 0, .slice none 0 0, .int .i64 0, .int .i64 0, .string ⟨#[]⟩, .slice none 0 0, .string ⟨#[]⟩, .int .i64 0, .string ⟨#[]⟩, .slice none 0 0, .string ⟨#[]⟩]) := g1.cs (Cs.new w [.int .i64 0, .int .i64 0, .int .i64 0, .int .i64 0, .slice none 0 0, .int .i64 0, .int .i64 0, .string ⟨#[]⟩, .slice none 0 0, .string ⟨#[]⟩, .int .i64 0, .string ⟨#[]⟩, .slice none 0 0, .string ⟨#[]⟩] 31 _ rfl) hne
 have P1 := Lib.hid h1
 have K1 : Hid (GB g w w1) := GB.trans (GB.refl g w).alloc g1
 have G1 : Hid (Gr w0 w1) := Gr.gb HG0.out.alloc g1 hb
 have lt1 : w.heap.size < w1.heap.size := R1.out.lt
 clear h1 g1
 have r1 := R1.out
 obtain ⟨c0, c1, c2, c3, c4, c5, c6, c7, c8, c9, c10, c11, c12, c13, cf0, cf1, cf2, cf3, cf4, cf5, cf6, cf7, cf8, cf9, cf10, cf11, cf12, cf13, clt⟩ := r1.d14
 clear r1
 go_wp2_with fail
 refine (H2.out _ (P1.out.far ⟨w.heap.size, 0, none⟩ (.int .i64 5) hne)).mono ?_
 rintro e2 w2 ⟨rfl, h2, g2⟩
 have R2 : Hid (Cs w2 w.heap.size [.int .i64 5, .int .i64 0, .int .i64 0, .int .i64 0, .slice none 0 0, .int .i64 0, .int .i64 0, .string ⟨#[]⟩, .slice none 0 0, .string ⟨#[]⟩, .int .i64 0, .string ⟨#[]⟩, .slice none 0 0, .string ⟨#[]⟩]) := g2.cs (R1.out.set 0 (by simp) (.int .i64 5)) hne
 have P2 := Lib.hid h2
 have K2 : Hid (GB g w w2) := GB.trans (K1.out.setNew ⟨w.heap.size, 0, none⟩ (.int .i64 5) (Or.inl (Nat.le_refl _))) g2
 have G2 : Hid (Gr w0 w2) := Gr.gb (G1.out.set ⟨w.heap.size, 0, none⟩ (by show w0.heap.size <= w.heap.size; omega) (.int .i64 5)) g2 hb
 have lt2 : w.heap.size < w2.heap.size := R2.out.lt
 clear h2 g2
 clear c0 cf0 c1 cf1 c2 cf2 c3 cf3 c4 cf4 c5 cf5 c6 cf6 c7 cf7 c8 cf8 c9 cf9 c10 cf10 c11 cf11 c12 cf12 c13 cf13 clt
 have r2 := R2.out
 obtain ⟨c0, c1, c2, c3, c4, c5, c6, c7, c8, c9, c10, c11, c12, c13, cf0, cf1, cf2, cf3, cf4, cf5, cf6, cf7, cf8, cf9, cf10, cf11, cf12, cf13, clt⟩ := r2.d14
 clear r2
 go_wp2
 have Q := Cs.fill14 (R2.out.set 13 (by simp) (.string ⟨t2.toArray⟩)) rfl (.int .i64 5) (.int .i64 0) (.int .i64 0) (.int .i64 0) (.slice none 0 0) (.int .i64 0) (.int .i64 0) (.string ⟨#[]⟩) (.slice none 0 0) (.string ⟨#[]⟩) (.int .i64 0) (.string ⟨#[]⟩) (.slice none 0 0) (.string ⟨t2.toArray⟩)
 obtain ⟨k0, k1, k2, k3, k4, k5, k6, k7, k8, k9, k10, k11, k12, k13, klt⟩ := Q.c14
 clear Q c0 cf0 c1 cf1 c2 cf2 c3 cf3 c4 cf4 c5 cf5 c6 cf6 c7 cf7 c8 cf8 c9 cf9 c10 cf10 c11 cf11 c12 cf12 c13 cf13
 exact bodyPost_ret (v := .agg #[.int .i64 5, .int .i64 0, .int .i64 0, .int .i64 0, .slice none 0 0, .int .i64 0, .int .i64 0, .string ⟨#[]⟩, .slice none 0 0, .string ⟨#[]⟩, .int .i64 0, .string ⟨#[]⟩, .slice none 0 0, .string ⟨t2.toArray⟩]) (by simp [results, Tryz.results49, go_sem, *]) rfl ⟨none, 0, none, 0, none, 0, rfl, HopsAt.nil, RowAt.nil, RowAt.nil, fun a e => (by cases e), fun a e => (by cases e), fun a e => (by cases e), (((((((((((((((K2.out.setNew ⟨w.heap.size, 13, none⟩ (.string ⟨t2.toArray⟩) (Or.inl (Nat.le_refl _))).setNew _ _ (Or.inl (Nat.le_refl _))).setNew _ _ (Or.inl (Nat.le_refl _))).setNew _ _ (Or.inl (Nat.le_refl _))).setNew _ _ (Or.inl (Nat.le_refl _))).setNew _ _ (Or.inl (Nat.le_refl _))).setNew _ _ (Or.inl (Nat.le_refl _))).setNew _ _ (Or.inl (Nat.le_refl _))).setNew _ _ (Or.inl (Nat.le_refl _))).setNew _ _ (Or.inl (Nat.le_refl _))).setNew _ _ (Or.inl (Nat.le_refl _))).setNew _ _ (Or.inl (Nat.le_refl _))).setNew _ _ (Or.inl (Nat.le_refl _))).setNew _ _ (Or.inl (Nat.le_refl _))).setNew _ _ (Or.inl (Nat.le_refl _)))⟩

theorem rrec6 (g : Nat) (s : ByteArray) (w0 w : World) (h : Rdr w g s ((0 : Nat) : Int)) (hs : s.size <= 140737488355328) (_he : Env w0) (h0 : Gr w0 w) (hb : w0.heap.size <= g) (v0 : Int) (hk : Rc.nv s.data.toList 0 = v0) (q1 : (v0 == 1) = false) (q2 : (v0 == 2) = false) (q3 : (v0 == 3) = false) (q5 : (v0 == 5) = false) :
  Calls Tryz.prog 49 #[.pointer (some ⟨g, 0, none⟩)] w fun e w' => RrcR g ⟨v0, Rc.zM, ⟨#[]⟩, 0, ⟨#[]⟩, [], ⟨#[]⟩⟩ w e w' := by
 have H1 : Hid (∀ (w' : World), Rdr w' g s ((0 : Nat) : Int) -> Calls Tryz.prog 69 #[.pointer (some ⟨g, 0, none⟩)] w' fun e w2 => e = .returned (.int .i64 (Rc.nv s.data.toList 0)) /\ Rdr w2 g s (Rc.np s.data.toList 0 : Nat) /\ GB g w' w2) := fun w' h' => rnum_any g s 0 w' h' hs
 unfold RrcR
 rw [hk] at H1
 generalize Rc.np s.data.toList 0 = p1 at *
 have hlt := h.lt
 have hsz0 := h0.size
 have hne : w.heap.size ≠ g := by omega
 have HW : Hid (Rdr w g s ((0 : Nat) : Int)) := h
 have HG0 : Hid (Gr w0 w) := h0
 clear h h0 hs
 go_enter Tryz.func49, Tryz.ntmps49
 go_wp2_with fail
 refine (H1.out _ HW.out.alloc).mono ?_
 rintro e1 w1 ⟨rfl, h1, g1⟩
 have R1 : Hid (Cs w1 w.heap.size [.int .i64 0, .int .i64 0, .int .i64 0, .int .i64 0, .slice none 0 0, .int .i64 0, .int .i64 0, .string ⟨#[]⟩, .slice none 0 0, .string ⟨#[]⟩, .int .i64 0, .string ⟨#[]⟩, .slice none 0 0, .string ⟨#[]⟩]) := g1.cs (Cs.new w [.int .i64 0, .int .i64 0, .int .i64 0, .int .i64 0, .slice none 0 0, .int .i64 0, .int .i64 0, .string ⟨#[]⟩, .slice none 0 0, .string ⟨#[]⟩, .int .i64 0, .string ⟨#[]⟩, .slice none 0 0, .string ⟨#[]⟩] 31 _ rfl) hne
 have P1 := Lib.hid h1
 have K1 : Hid (GB g w w1) := GB.trans (GB.refl g w).alloc g1
 have G1 : Hid (Gr w0 w1) := Gr.gb HG0.out.alloc g1 hb
 have lt1 : w.heap.size < w1.heap.size := R1.out.lt
 clear h1 g1
 have r1 := R1.out
 obtain ⟨c0, c1, c2, c3, c4, c5, c6, c7, c8, c9, c10, c11, c12, c13, cf0, cf1, cf2, cf3, cf4, cf5, cf6, cf7, cf8, cf9, cf10, cf11, cf12, cf13, clt⟩ := r1.d14
 clear r1
 go_wp2
 have Q := Cs.fill14 (R1.out.set 0 (by simp) (.int .i64 v0)) rfl (.int .i64 v0) (.int .i64 0) (.int .i64 0) (.int .i64 0) (.slice none 0 0) (.int .i64 0) (.int .i64 0) (.string ⟨#[]⟩) (.slice none 0 0) (.string ⟨#[]⟩) (.int .i64 0) (.string ⟨#[]⟩) (.slice none 0 0) (.string ⟨#[]⟩)
 obtain ⟨k0, k1, k2, k3, k4, k5, k6, k7, k8, k9, k10, k11, k12, k13, klt⟩ := Q.c14
 clear Q c0 cf0 c1 cf1 c2 cf2 c3 cf3 c4 cf4 c5 cf5 c6 cf6 c7 cf7 c8 cf8 c9 cf9 c10 cf10 c11 cf11 c12 cf12 c13 cf13
 exact bodyPost_ret (v := .agg #[.int .i64 v0, .int .i64 0, .int .i64 0, .int .i64 0, .slice none 0 0, .int .i64 0, .int .i64 0, .string ⟨#[]⟩, .slice none 0 0, .string ⟨#[]⟩, .int .i64 0, .string ⟨#[]⟩, .slice none 0 0, .string ⟨#[]⟩]) (by simp [results, Tryz.results49, go_sem, *]) rfl ⟨none, 0, none, 0, none, 0, rfl, HopsAt.nil, RowAt.nil, RowAt.nil, fun a e => (by cases e), fun a e => (by cases e), fun a e => (by cases e), (((((((((((((((K1.out.setNew ⟨w.heap.size, 0, none⟩ (.int .i64 v0) (Or.inl (Nat.le_refl _))).setNew _ _ (Or.inl (Nat.le_refl _))).setNew _ _ (Or.inl (Nat.le_refl _))).setNew _ _ (Or.inl (Nat.le_refl _))).setNew _ _ (Or.inl (Nat.le_refl _))).setNew _ _ (Or.inl (Nat.le_refl _))).setNew _ _ (Or.inl (Nat.le_refl _))).setNew _ _ (Or.inl (Nat.le_refl _))).setNew _ _ (Or.inl (Nat.le_refl _))).setNew _ _ (Or.inl (Nat.le_refl _))).setNew _ _ (Or.inl (Nat.le_refl _))).setNew _ _ (Or.inl (Nat.le_refl _))).setNew _ _ (Or.inl (Nat.le_refl _))).setNew _ _ (Or.inl (Nat.le_refl _))).setNew _ _ (Or.inl (Nat.le_refl _)))⟩


theorem rrec_any (g : Nat) (s : ByteArray) (w0 w : World) (h : Rdr w g s ((0 : Nat) : Int)) (hs : s.size <= 140737488355328) (he : Env w0) (h0 : Gr w0 w) (hb : w0.heap.size <= g) :
  Calls Tryz.prog 49 #[.pointer (some ⟨g, 0, none⟩)] w fun e w' => RrcR g (Rc.rd s.data.toList) w e w' := by
 unfold Rc.rd
 by_cases h1 : Rc.nv s.data.toList 0 = 1
 ·rw [if_pos h1, h1]; exact rrec1 g s w0 w h hs he h0 hb h1
 rw [if_neg h1]
 by_cases h2 : Rc.nv s.data.toList 0 = 2
 ·rw [if_pos h2, h2]; exact rrec2 g s w0 w h hs he h0 hb h2
 rw [if_neg h2]
 by_cases h3 : Rc.nv s.data.toList 0 = 3
 ·rw [if_pos h3, h3]; exact rrec3 g s w0 w h hs he h0 hb h3
 rw [if_neg h3]
 by_cases h5 : Rc.nv s.data.toList 0 = 5
 ·rw [if_pos h5, h5]; exact rrec5 g s w0 w h hs he h0 hb h5
 rw [if_neg h5]
 exact rrec6 g s w0 w h hs he h0 hb _ rfl (by simpa using h1) (by simpa using h2) (by simpa using h3) (by simpa using h5)
end Go.Proofs.YthaadiclopoamaaGreatDoor
