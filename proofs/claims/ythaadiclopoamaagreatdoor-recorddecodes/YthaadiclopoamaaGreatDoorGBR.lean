/- Parts of these proofs, laid together. -/
import Derived.Test.YthaadiclopoamaaGreatDoorGBQ
import Derived.Test.YthaadiclopoamaaGreatDoorGJ
import Derived.Test.YthaadiclopoamaaGreatDoorGR
import Derived.Test.YthaadiclopoamaaGreatDoorGBO
/- the document's record: what is read of bytes. -/
set_option maxRecDepth 100000
set_option maxHeartbeats 8000000
namespace Go.Proofs.YthaadiclopoamaaGreatDoor
open Go.RowKit
open Df (Stp)

theorem qparse_any (t : List UInt8) (w : World) (hs : t.length <= 140737488355328) :
  Calls Tryz.prog 76 #[.string ⟨t.toArray⟩] w fun e w' => ∃ ad cap, e = .returned (.tuple #[.agg #[.int .i64 (Rc.ivR t), .int .i64 (Rc.ivN t), .slice ad (Rc.ivL t).length cap], .int .i64 (if parB t = true then 0 else 30)]) /\ HopsAt w' ad (Rc.ivL t) /\ (∀ a, ad = some a -> w.heap.size <= a.block) /\ Gr w w' := by
 refine (refParse_new ⟨t.toArray⟩ w (by simp [ByteArray.size]; omega)).mono ?_
 unfold Rc.ivR Rc.ivN Rc.ivL
 rintro e w2 ⟨⟨r', n', L', ad2, cap2, h1, h2, h3, h4⟩ | ⟨h1, h2⟩, hg⟩
 ·have h1 : refP t = some (r', n', L') := h1
  rw [ref_par] at h1
  by_cases hp : parB t = true
  ·rw [if_pos hp] at h1
   simp only [Option.some.injEq, Prod.mk.injEq] at h1
   obtain ⟨rfl, rfl, rfl⟩ := h1
   rw [if_pos hp, if_pos hp, if_pos hp, if_pos hp]
   exact ⟨ad2, cap2, h2, h3, h4, hg⟩
  ·rw [if_neg hp] at h1; cases h1
 ·have h1 : refP t = none := h1
  rw [ref_par] at h1
  by_cases hp : parB t = true
  ·rw [if_pos hp] at h1; cases h1
  ·rw [if_neg hp, if_neg hp, if_neg hp, if_neg hp]
   exact ⟨none, 0, h2, HopsAt.nil, fun a e => (by cases e), hg⟩

/- what read answers -/
def QrdR (X : Rc) (b : Bool) (w : World) (e : Ending) (w' : World) : Prop :=
 ∃ a1 c1 a2 c2 a3 c3, e = .returned (.tuple #[.agg #[.int .i64 X.k, .int .i64 X.m.k, .int .i64 X.m.r, .int .i64 X.m.n, .slice a1 X.m.L.length c1, .int .i64 X.m.s, .int .i64 X.m.y, .string X.m.d, .slice a2 X.m.S.length c2, .string X.a, .int .i64 X.v, .string X.d, .slice a3 X.S.length c3, .string X.t], .bool b]) /\ HopsAt w' a1 X.m.L /\ StpsAt w' a2 X.m.S /\ StpsAt w' a3 X.S /\ (∀ a, a1 = some a -> w.heap.size < a.block) /\ (∀ a, a2 = some a -> w.heap.size < a.block) /\ (∀ a, a3 = some a -> w.heap.size < a.block) /\ Gr w w'
theorem text_lenq (l : List UInt8) (p : Int) : (Pk.takeText l p).1.length <= l.length := by
 rcases Pk.takeText_spec l p with h | h
 ·exact h.2.2.2.2
 ·rw [h.1]; simp

theorem qreadA (s : ByteArray) (w : World) (hs : s.size <= 140737488355328) (hb : Rc.tkB s.data.toList 0 true = false) :
  Calls Tryz.prog 50 #[.string s] w fun e w' => QrdR ⟨0, Rc.zM, ⟨#[]⟩, 0, ⟨#[]⟩, [], ⟨#[]⟩⟩ false w e w' := by
 have HK : Hid (∀ w' : World, Calls Tryz.prog 74 #[.string s, .int .i64 0, .bool true] w' fun e w2 => e = .returned (.tuple #[.int .i64 (Rc.tkV s.data.toList 0 true : Nat), .int .i64 (Rc.tkP s.data.toList 0 true : Nat), .bool (Rc.tkB s.data.toList 0 true)]) /\ Gr w' w2) := fun w' => qtake_any s 0 true w' hs
 unfold QrdR
 have hv : Rc.tkV s.data.toList 0 true = 0 := by unfold Rc.tkV; rw [hb]; rfl
 rw [hb, hv] at HK
 generalize Rc.tkP s.data.toList 0 true = p0 at *
 clear hb hv hs
 go_enter Tryz.func50, Tryz.ntmps50
 go_wp2_with fail
 refine (HK.out _).mono ?_
 rintro e1 w1 ⟨rfl, hg1⟩
 have R1 := Lib.hid (((Cs.new w _ _ _ rfl).alloc).gr hg1)
 have X1 : Hid (Cs w1 (w.heap.size + 1) _) := (Cs.new _ _ _ _ (by simp)).gr hg1
 have G1 : Hid (Gr w w1) := (((Gr.refl w).alloc.alloc)).trans hg1
 clear hg1
 have ltw1 : w.heap.size + 1 < w1.heap.size := X1.out.lt
 have y1 := X1.out
 obtain ⟨x0, x1, x2, x3, x4, x5, x6, x7, x8, x9, x10, x11, x12, x13, xf0, xf1, xf2, xf3, xf4, xf5, xf6, xf7, xf8, xf9, xf10, xf11, xf12, xf13, xlt⟩ := y1.d14
 clear y1
 have r1 := R1.out
 obtain ⟨c0, c1, c2, c3, c4, c5, c6, c7, c8, c9, c10, c11, c12, c13, cf0, cf1, cf2, cf3, cf4, cf5, cf6, cf7, cf8, cf9, cf10, cf11, cf12, cf13, clt⟩ := r1.d14
 clear r1
 go_wp2
 have Q := Cs.fill14 (R1.out.far ⟨w.heap.size + 1, 0, none⟩ (.int .i64 0) (by simp)) rfl (.int .i64 0) (.int .i64 0) (.int .i64 0) (.int .i64 0) (.slice none 0 0) (.int .i64 0) (.int .i64 0) (.string ⟨#[]⟩) (.slice none 0 0) (.string ⟨#[]⟩) (.int .i64 0) (.string ⟨#[]⟩) (.slice none 0 0) (.string ⟨#[]⟩)
 obtain ⟨k0', k1', k2', k3', k4', k5', k6', k7', k8', k9', k10', k11', k12', k13', klt⟩ := Q.c14
 clear Q
 exact bodyPost_ret (v := .tuple #[.agg #[.int .i64 0, .int .i64 0, .int .i64 0, .int .i64 0, .slice none 0 0, .int .i64 0, .int .i64 0, .string ⟨#[]⟩, .slice none 0 0, .string ⟨#[]⟩, .int .i64 0, .string ⟨#[]⟩, .slice none 0 0, .string ⟨#[]⟩], .bool false]) (by simp [results, Tryz.results50, go_sem, *]) rfl ⟨none, 0, none, 0, none, 0, rfl, HopsAt.nil, RowAt.nil, RowAt.nil, (fun a e => (by cases e)), (fun a e => (by cases e)), (fun a e => (by cases e)), (G1.out.set ⟨w.heap.size + 1, 0, none⟩ (by simp) (.int .i64 0)).set14 w.heap.size (Nat.le_refl _) _ _ _ _ _ _ _ _ _ _ _ _ _ _⟩

theorem qread4 (s : ByteArray) (w : World) (hs : s.size <= 140737488355328) (hb : Rc.tkB s.data.toList 0 true = true) (hk : Rc.fk s.data.toList = 4) :
  Calls Tryz.prog 50 #[.string s] w fun e w' => QrdR ⟨4, Rc.zM, ⟨#[]⟩, 0, ⟨#[]⟩, [], ⟨#[]⟩⟩ true w e w' := by
 have HK : Hid (∀ w' : World, Calls Tryz.prog 74 #[.string s, .int .i64 0, .bool true] w' fun e w2 => e = .returned (.tuple #[.int .i64 (Rc.tkV s.data.toList 0 true : Nat), .int .i64 (Rc.tkP s.data.toList 0 true : Nat), .bool (Rc.tkB s.data.toList 0 true)]) /\ Gr w' w2) := fun w' => qtake_any s 0 true w' hs
 unfold QrdR
 unfold Rc.fk at hk
 rw [hb, hk] at HK
 generalize Rc.tkP s.data.toList 0 true = p0 at *
 clear hb hk hs
 go_enter Tryz.func50, Tryz.ntmps50
 go_wp2_with fail
 refine (HK.out _).mono ?_
 rintro e1 w1 ⟨rfl, hg1⟩
 have R1 := Lib.hid (((Cs.new w _ _ _ rfl).alloc).gr hg1)
 have X1 : Hid (Cs w1 (w.heap.size + 1) _) := (Cs.new _ _ _ _ (by simp)).gr hg1
 have G1 : Hid (Gr w w1) := (((Gr.refl w).alloc.alloc)).trans hg1
 clear hg1
 have ltw1 : w.heap.size + 1 < w1.heap.size := X1.out.lt
 have y1 := X1.out
 obtain ⟨x0, x1, x2, x3, x4, x5, x6, x7, x8, x9, x10, x11, x12, x13, xf0, xf1, xf2, xf3, xf4, xf5, xf6, xf7, xf8, xf9, xf10, xf11, xf12, xf13, xlt⟩ := y1.d14
 clear y1
 have r1 := R1.out
 obtain ⟨c0, c1, c2, c3, c4, c5, c6, c7, c8, c9, c10, c11, c12, c13, cf0, cf1, cf2, cf3, cf4, cf5, cf6, cf7, cf8, cf9, cf10, cf11, cf12, cf13, clt⟩ := r1.d14
 clear r1
 go_wp2
 have Q := Cs.fill14 (R1.out.far ⟨w.heap.size + 1, 0, none⟩ (.int .i64 ((4 : Nat) : Int)) (by simp)) rfl (.int .i64 ((4 : Nat) : Int)) (.int .i64 0) (.int .i64 0) (.int .i64 0) (.slice none 0 0) (.int .i64 0) (.int .i64 0) (.string ⟨#[]⟩) (.slice none 0 0) (.string ⟨#[]⟩) (.int .i64 0) (.string ⟨#[]⟩) (.slice none 0 0) (.string ⟨#[]⟩)
 obtain ⟨k0', k1', k2', k3', k4', k5', k6', k7', k8', k9', k10', k11', k12', k13', klt⟩ := Q.c14
 clear Q
 exact bodyPost_ret (v := .tuple #[.agg #[.int .i64 ((4 : Nat) : Int), .int .i64 0, .int .i64 0, .int .i64 0, .slice none 0 0, .int .i64 0, .int .i64 0, .string ⟨#[]⟩, .slice none 0 0, .string ⟨#[]⟩, .int .i64 0, .string ⟨#[]⟩, .slice none 0 0, .string ⟨#[]⟩], .bool true]) (by simp [results, Tryz.results50, go_sem, *]) rfl ⟨none, 0, none, 0, none, 0, rfl, HopsAt.nil, RowAt.nil, RowAt.nil, (fun a e => (by cases e)), (fun a e => (by cases e)), (fun a e => (by cases e)), (G1.out.set ⟨w.heap.size + 1, 0, none⟩ (by simp) (.int .i64 ((4 : Nat) : Int))).set14 w.heap.size (Nat.le_refl _) _ _ _ _ _ _ _ _ _ _ _ _ _ _⟩

theorem qreadFk (s : ByteArray) (w : World) (hs : s.size <= 140737488355328) (hb : Rc.tkB s.data.toList 0 true = true) (kk : Nat) (n1 : ((kk : Int) == 1) = false) (n4 : ((kk : Int) == 4) = false) (hk : Rc.fk s.data.toList = kk) (he : ¬ (Rc.fx1 s.data.toList).2.2 = 0) :
  Calls Tryz.prog 50 #[.string s] w fun e w' => QrdR ⟨(kk : Int), Rc.zM, ⟨#[]⟩, 0, ⟨#[]⟩, [], ⟨#[]⟩⟩ false w e w' := by
 have HK : Hid (∀ w' : World, Calls Tryz.prog 74 #[.string s, .int .i64 0, .bool true] w' fun e w2 => e = .returned (.tuple #[.int .i64 (Rc.tkV s.data.toList 0 true : Nat), .int .i64 (Rc.tkP s.data.toList 0 true : Nat), .bool (Rc.tkB s.data.toList 0 true)]) /\ Gr w' w2) := fun w' => qtake_any s 0 true w' hs
 unfold QrdR
 unfold Rc.fk at hk
 rw [hb, hk] at HK
 have HX : Hid (∀ w' : World, Calls Tryz.prog 75 #[.string s, .int .i64 (Rc.fp s.data.toList : Nat)] w' fun e w2 => e = .returned (.tuple #[.string ⟨(Rc.fx1 s.data.toList).1.toArray⟩, .int .i64 (Rc.fx1 s.data.toList).2.1, .int .i64 (Rc.fx1 s.data.toList).2.2]) /\ Gr w' w2) := fun w' => refTakeText_any s (Rc.fp s.data.toList : Nat) w' hs
 have HFP : Hid (Rc.tkP s.data.toList 0 true = Rc.fp s.data.toList) := rfl
 rw [HFP.out] at HK
 generalize (Rc.fx1 s.data.toList).1 = tx at *
 generalize (Rc.fx1 s.data.toList).2.1 = q1 at *
 generalize (Rc.fx1 s.data.toList).2.2 = ex at *
 have he' : ((ex : Int) != 0) = true := by simpa using (show ¬ (ex : Int) = 0 by omega)
 generalize Rc.fp s.data.toList = p0 at *
 clear hb hk hs he HFP
 go_enter Tryz.func50, Tryz.ntmps50
 go_wp2_with fail
 refine (HK.out _).mono ?_
 rintro e1 w1 ⟨rfl, hg1⟩
 have R1 := Lib.hid (((Cs.new w _ _ _ rfl).alloc).gr hg1)
 have X1 : Hid (Cs w1 (w.heap.size + 1) _) := (Cs.new _ _ _ _ (by simp)).gr hg1
 have G1 : Hid (Gr w w1) := (((Gr.refl w).alloc.alloc)).trans hg1
 clear hg1
 have ltw1 : w.heap.size + 1 < w1.heap.size := X1.out.lt
 have y1 := X1.out
 obtain ⟨x0, x1, x2, x3, x4, x5, x6, x7, x8, x9, x10, x11, x12, x13, xf0, xf1, xf2, xf3, xf4, xf5, xf6, xf7, xf8, xf9, xf10, xf11, xf12, xf13, xlt⟩ := y1.d14
 clear y1
 go_wp2_with fail
 refine (HX.out _).mono ?_
 rintro e2 w2 ⟨rfl, hg2⟩
 have R2 := Lib.hid (((R1.out.far ⟨w.heap.size + 1, 0, none⟩ (.int .i64 ((kk : Nat) : Int)) (by simp))).gr hg2)
 have X2 : Hid (Cs w2 (w.heap.size + 1) [.int .i64 ((kk : Nat) : Int), .int .i64 0, .int .i64 0, .int .i64 0, .slice none 0 0, .int .i64 0, .int .i64 0, .string ⟨#[]⟩, .slice none 0 0, .string ⟨#[]⟩, .int .i64 0, .string ⟨#[]⟩, .slice none 0 0, .string ⟨#[]⟩]) := ((X1.out.set 0 (by simp) (.int .i64 ((kk : Nat) : Int)))).gr hg2
 clear x0 xf0 x1 xf1 x2 xf2 x3 xf3 x4 xf4 x5 xf5 x6 xf6 x7 xf7 x8 xf8 x9 xf9 x10 xf10 x11 xf11 x12 xf12 x13 xf13 xlt
 have G2 : Hid (Gr w w2) := ((G1.out.set ⟨w.heap.size + 1, 0, none⟩ (by simp) (.int .i64 ((kk : Nat) : Int)))).trans hg2
 clear hg2
 have ltw2 : w.heap.size + 1 < w2.heap.size := X2.out.lt
 have y2 := X2.out
 obtain ⟨x0, x1, x2, x3, x4, x5, x6, x7, x8, x9, x10, x11, x12, x13, xf0, xf1, xf2, xf3, xf4, xf5, xf6, xf7, xf8, xf9, xf10, xf11, xf12, xf13, xlt⟩ := y2.d14
 clear y2
 have r2 := R2.out
 obtain ⟨c0, c1, c2, c3, c4, c5, c6, c7, c8, c9, c10, c11, c12, c13, cf0, cf1, cf2, cf3, cf4, cf5, cf6, cf7, cf8, cf9, cf10, cf11, cf12, cf13, clt⟩ := r2.d14
 clear r2
 go_wp2
 have Q := Cs.fill14 R2.out rfl (.int .i64 ((kk : Nat) : Int)) (.int .i64 0) (.int .i64 0) (.int .i64 0) (.slice none 0 0) (.int .i64 0) (.int .i64 0) (.string ⟨#[]⟩) (.slice none 0 0) (.string ⟨#[]⟩) (.int .i64 0) (.string ⟨#[]⟩) (.slice none 0 0) (.string ⟨#[]⟩)
 obtain ⟨k0', k1', k2', k3', k4', k5', k6', k7', k8', k9', k10', k11', k12', k13', klt⟩ := Q.c14
 clear Q
 exact bodyPost_ret (v := .tuple #[.agg #[.int .i64 ((kk : Nat) : Int), .int .i64 0, .int .i64 0, .int .i64 0, .slice none 0 0, .int .i64 0, .int .i64 0, .string ⟨#[]⟩, .slice none 0 0, .string ⟨#[]⟩, .int .i64 0, .string ⟨#[]⟩, .slice none 0 0, .string ⟨#[]⟩], .bool false]) (by simp [results, Tryz.results50, go_sem, *]) rfl ⟨none, 0, none, 0, none, 0, rfl, HopsAt.nil, RowAt.nil, RowAt.nil, (fun a e => (by cases e)), (fun a e => (by cases e)), (fun a e => (by cases e)), G2.out.set14 w.heap.size (Nat.le_refl _) _ _ _ _ _ _ _ _ _ _ _ _ _ _⟩

theorem qread2 (s : ByteArray) (w : World) (hs : s.size <= 140737488355328) (hb : Rc.tkB s.data.toList 0 true = true) (hk : Rc.fk s.data.toList = 2) (he : (Rc.fx1 s.data.toList).2.2 = 0) :
  Calls Tryz.prog 50 #[.string s] w fun e w' => QrdR ⟨2, Rc.zM, ⟨(Rc.fx1 s.data.toList).1.toArray⟩, Pk.unsg (Pk.takeNum s.data.toList (Rc.fx1 s.data.toList).2.1).1, ⟨#[]⟩, [], ⟨#[]⟩⟩ (decide ((Pk.takeNum s.data.toList (Rc.fx1 s.data.toList).2.1).2.2 = 0)) w e w' := by
 have HK : Hid (∀ w' : World, Calls Tryz.prog 74 #[.string s, .int .i64 0, .bool true] w' fun e w2 => e = .returned (.tuple #[.int .i64 (Rc.tkV s.data.toList 0 true : Nat), .int .i64 (Rc.tkP s.data.toList 0 true : Nat), .bool (Rc.tkB s.data.toList 0 true)]) /\ Gr w' w2) := fun w' => qtake_any s 0 true w' hs
 unfold QrdR
 unfold Rc.fk at hk
 rw [hb, hk] at HK
 have HX : Hid (∀ w' : World, Calls Tryz.prog 75 #[.string s, .int .i64 (Rc.fp s.data.toList : Nat)] w' fun e w2 => e = .returned (.tuple #[.string ⟨(Rc.fx1 s.data.toList).1.toArray⟩, .int .i64 (Rc.fx1 s.data.toList).2.1, .int .i64 (Rc.fx1 s.data.toList).2.2]) /\ Gr w' w2) := fun w' => refTakeText_any s (Rc.fp s.data.toList : Nat) w' hs
 have HFP : Hid (Rc.tkP s.data.toList 0 true = Rc.fp s.data.toList) := rfl
 rw [HFP.out] at HK
 rw [he] at HX
 have HG : Hid (∀ w' : World, Calls Tryz.prog 78 #[.string s, .int .i64 ((Rc.fx1 s.data.toList).2.1 : Nat)] w' fun e w2 => e = .returned (.tuple #[.int .i64 (Pk.unsg (Pk.takeNum s.data.toList (Rc.fx1 s.data.toList).2.1).1), .int .i64 (Pk.takeNum s.data.toList (Rc.fx1 s.data.toList).2.1).2.1, .int .i64 (Pk.takeNum s.data.toList (Rc.fx1 s.data.toList).2.1).2.2]) /\ Gr w' w2) := fun w' => (refTakeSigned_any s ((Rc.fx1 s.data.toList).2.1 : Nat) w' hs).mono fun _ _ h => ⟨h.1, by first | exact h.2 | (rw [h.2]; exact Gr.refl _)⟩
 generalize (Rc.fx1 s.data.toList).1 = tx at *
 generalize (Rc.fx1 s.data.toList).2.1 = q1 at *
 generalize Pk.unsg (Pk.takeNum s.data.toList q1).1 = am at *
 generalize (Pk.takeNum s.data.toList q1).2.1 = q2 at *
 generalize (Pk.takeNum s.data.toList q1).2.2 = ez at *
 have hz : ((ez : Int) == 0) = decide (ez = 0) := by
  by_cases q : ez = 0
  ·subst q; rfl
  ·rw [decide_eq_false q]; simpa using q
 generalize decide (ez = 0) = bz at *
 generalize Rc.fp s.data.toList = p0 at *
 clear hb hk hs he HFP
 go_enter Tryz.func50, Tryz.ntmps50
 go_wp2_with fail
 refine (HK.out _).mono ?_
 rintro e1 w1 ⟨rfl, hg1⟩
 have R1 := Lib.hid (((Cs.new w _ _ _ rfl).alloc).gr hg1)
 have X1 : Hid (Cs w1 (w.heap.size + 1) _) := (Cs.new _ _ _ _ (by simp)).gr hg1
 have G1 : Hid (Gr w w1) := (((Gr.refl w).alloc.alloc)).trans hg1
 clear hg1
 have ltw1 : w.heap.size + 1 < w1.heap.size := X1.out.lt
 have y1 := X1.out
 obtain ⟨x0, x1, x2, x3, x4, x5, x6, x7, x8, x9, x10, x11, x12, x13, xf0, xf1, xf2, xf3, xf4, xf5, xf6, xf7, xf8, xf9, xf10, xf11, xf12, xf13, xlt⟩ := y1.d14
 clear y1
 go_wp2_with fail
 refine (HX.out _).mono ?_
 rintro e2 w2 ⟨rfl, hg2⟩
 have R2 := Lib.hid (((R1.out.far ⟨w.heap.size + 1, 0, none⟩ (.int .i64 ((2 : Nat) : Int)) (by simp))).gr hg2)
 have X2 : Hid (Cs w2 (w.heap.size + 1) [.int .i64 ((2 : Nat) : Int), .int .i64 0, .int .i64 0, .int .i64 0, .slice none 0 0, .int .i64 0, .int .i64 0, .string ⟨#[]⟩, .slice none 0 0, .string ⟨#[]⟩, .int .i64 0, .string ⟨#[]⟩, .slice none 0 0, .string ⟨#[]⟩]) := ((X1.out.set 0 (by simp) (.int .i64 ((2 : Nat) : Int)))).gr hg2
 clear x0 xf0 x1 xf1 x2 xf2 x3 xf3 x4 xf4 x5 xf5 x6 xf6 x7 xf7 x8 xf8 x9 xf9 x10 xf10 x11 xf11 x12 xf12 x13 xf13 xlt
 have G2 : Hid (Gr w w2) := ((G1.out.set ⟨w.heap.size + 1, 0, none⟩ (by simp) (.int .i64 ((2 : Nat) : Int)))).trans hg2
 clear hg2
 have ltw2 : w.heap.size + 1 < w2.heap.size := X2.out.lt
 go_wp2_with fail
 refine (HG.out _).mono ?_
 rintro e3 w3 ⟨rfl, hg3⟩
 have R3 := Lib.hid ((R2.out).gr hg3)
 have X3 := Lib.hid ((X2.out).gr hg3)
 have G3 : Hid (Gr w w3) := (G2.out).trans hg3
 clear hg3
 have ltw3 : w.heap.size + 1 < w3.heap.size := X3.out.lt
 have y3 := X3.out
 obtain ⟨x0, x1, x2, x3, x4, x5, x6, x7, x8, x9, x10, x11, x12, x13, xf0, xf1, xf2, xf3, xf4, xf5, xf6, xf7, xf8, xf9, xf10, xf11, xf12, xf13, xlt⟩ := y3.d14
 clear y3
 have r3 := R3.out
 obtain ⟨c0, c1, c2, c3, c4, c5, c6, c7, c8, c9, c10, c11, c12, c13, cf0, cf1, cf2, cf3, cf4, cf5, cf6, cf7, cf8, cf9, cf10, cf11, cf12, cf13, clt⟩ := r3.d14
 clear r3
 go_wp2
 have Q := Cs.fill14 ((R3.out.far ⟨w.heap.size + 1, 9, none⟩ (.string ⟨tx.toArray⟩) (by simp)).far ⟨w.heap.size + 1, 10, none⟩ (.int .i64 am) (by simp)) rfl (.int .i64 ((2 : Nat) : Int)) (.int .i64 0) (.int .i64 0) (.int .i64 0) (.slice none 0 0) (.int .i64 0) (.int .i64 0) (.string ⟨#[]⟩) (.slice none 0 0) (.string ⟨tx.toArray⟩) (.int .i64 am) (.string ⟨#[]⟩) (.slice none 0 0) (.string ⟨#[]⟩)
 obtain ⟨k0', k1', k2', k3', k4', k5', k6', k7', k8', k9', k10', k11', k12', k13', klt⟩ := Q.c14
 clear Q
 exact bodyPost_ret (v := .tuple #[.agg #[.int .i64 ((2 : Nat) : Int), .int .i64 0, .int .i64 0, .int .i64 0, .slice none 0 0, .int .i64 0, .int .i64 0, .string ⟨#[]⟩, .slice none 0 0, .string ⟨tx.toArray⟩, .int .i64 am, .string ⟨#[]⟩, .slice none 0 0, .string ⟨#[]⟩], .bool bz]) (by simp [results, Tryz.results50, go_sem, *]) rfl ⟨none, 0, none, 0, none, 0, rfl, HopsAt.nil, RowAt.nil, RowAt.nil, (fun a e => (by cases e)), (fun a e => (by cases e)), (fun a e => (by cases e)), ((G3.out.set ⟨w.heap.size + 1, 9, none⟩ (by simp) (.string ⟨tx.toArray⟩)).set ⟨w.heap.size + 1, 10, none⟩ (by simp) (.int .i64 am)).set14 w.heap.size (Nat.le_refl _) _ _ _ _ _ _ _ _ _ _ _ _ _ _⟩

theorem qread3 (s : ByteArray) (w : World) (hs : s.size <= 140737488355328) (hb : Rc.tkB s.data.toList 0 true = true) (hk : Rc.fk s.data.toList = 3) (he : (Rc.fx1 s.data.toList).2.2 = 0) :
  Calls Tryz.prog 50 #[.string s] w fun e w' => QrdR ⟨3, Rc.zM, ⟨#[]⟩, 0, tN (Rc.fx1 s.data.toList).1, tL (Rc.fx1 s.data.toList).1, ⟨#[]⟩⟩ true w e w' := by
 have HK : Hid (∀ w' : World, Calls Tryz.prog 74 #[.string s, .int .i64 0, .bool true] w' fun e w2 => e = .returned (.tuple #[.int .i64 (Rc.tkV s.data.toList 0 true : Nat), .int .i64 (Rc.tkP s.data.toList 0 true : Nat), .bool (Rc.tkB s.data.toList 0 true)]) /\ Gr w' w2) := fun w' => qtake_any s 0 true w' hs
 unfold QrdR
 unfold Rc.fk at hk
 rw [hb, hk] at HK
 have HX : Hid (∀ w' : World, Calls Tryz.prog 75 #[.string s, .int .i64 (Rc.fp s.data.toList : Nat)] w' fun e w2 => e = .returned (.tuple #[.string ⟨(Rc.fx1 s.data.toList).1.toArray⟩, .int .i64 (Rc.fx1 s.data.toList).2.1, .int .i64 (Rc.fx1 s.data.toList).2.2]) /\ Gr w' w2) := fun w' => refTakeText_any s (Rc.fp s.data.toList : Nat) w' hs
 have HFP : Hid (Rc.tkP s.data.toList 0 true = Rc.fp s.data.toList) := rfl
 rw [HFP.out] at HK
 rw [he] at HX
 have HD : Hid (∀ w' : World, Calls Tryz.prog 77 #[.string ⟨(Rc.fx1 s.data.toList).1.toArray⟩] w' fun e w2 => ∃ ad cap, e = .returned (.agg #[.string (tN (Rc.fx1 s.data.toList).1), .slice ad (tL (Rc.fx1 s.data.toList).1).length cap]) /\ StpsAt w2 ad (tL (Rc.fx1 s.data.toList).1) /\ (∀ a, ad = some a -> w'.heap.size < a.block) /\ Gr w' w2) := fun w' => qdf_any _ w' (by have h1 := text_lenq s.data.toList (Rc.fp s.data.toList : Nat); have h2 : s.data.toList.length = s.size := (by simp); unfold Rc.fx1; omega)
 generalize (Rc.fx1 s.data.toList).1 = tx at *
 generalize (Rc.fx1 s.data.toList).2.1 = q1 at *
 generalize tN tx = dn at *
 generalize tL tx = dS at *
 generalize Rc.fp s.data.toList = p0 at *
 clear hb hk hs he HFP
 go_enter Tryz.func50, Tryz.ntmps50
 go_wp2_with fail
 refine (HK.out _).mono ?_
 rintro e1 w1 ⟨rfl, hg1⟩
 have R1 := Lib.hid (((Cs.new w _ _ _ rfl).alloc).gr hg1)
 have X1 : Hid (Cs w1 (w.heap.size + 1) _) := (Cs.new _ _ _ _ (by simp)).gr hg1
 have G1 : Hid (Gr w w1) := (((Gr.refl w).alloc.alloc)).trans hg1
 clear hg1
 have ltw1 : w.heap.size + 1 < w1.heap.size := X1.out.lt
 have y1 := X1.out
 obtain ⟨x0, x1, x2, x3, x4, x5, x6, x7, x8, x9, x10, x11, x12, x13, xf0, xf1, xf2, xf3, xf4, xf5, xf6, xf7, xf8, xf9, xf10, xf11, xf12, xf13, xlt⟩ := y1.d14
 clear y1
 go_wp2_with fail
 refine (HX.out _).mono ?_
 rintro e2 w2 ⟨rfl, hg2⟩
 have R2 := Lib.hid (((R1.out.far ⟨w.heap.size + 1, 0, none⟩ (.int .i64 ((3 : Nat) : Int)) (by simp))).gr hg2)
 have X2 : Hid (Cs w2 (w.heap.size + 1) [.int .i64 ((3 : Nat) : Int), .int .i64 0, .int .i64 0, .int .i64 0, .slice none 0 0, .int .i64 0, .int .i64 0, .string ⟨#[]⟩, .slice none 0 0, .string ⟨#[]⟩, .int .i64 0, .string ⟨#[]⟩, .slice none 0 0, .string ⟨#[]⟩]) := ((X1.out.set 0 (by simp) (.int .i64 ((3 : Nat) : Int)))).gr hg2
 clear x0 xf0 x1 xf1 x2 xf2 x3 xf3 x4 xf4 x5 xf5 x6 xf6 x7 xf7 x8 xf8 x9 xf9 x10 xf10 x11 xf11 x12 xf12 x13 xf13 xlt
 have G2 : Hid (Gr w w2) := ((G1.out.set ⟨w.heap.size + 1, 0, none⟩ (by simp) (.int .i64 ((3 : Nat) : Int)))).trans hg2
 clear hg2
 have ltw2 : w.heap.size + 1 < w2.heap.size := X2.out.lt
 go_wp2_with fail
 refine (HD.out _).mono ?_
 rintro e3 w3 ⟨ad3, cap3, rfl, hib, hf3, hg3⟩
 have R3 := Lib.hid ((R2.out).gr hg3)
 have X3 := Lib.hid ((X2.out).gr hg3)
 have G3 : Hid (Gr w w3) := (G2.out).trans hg3
 have FHT : Hid (∀ a, ad3 = some a -> w.heap.size + 1 < a.block) := fun a e => by have := hf3 a e; omega
 have HT3 := Lib.hid hib
 clear hib hf3
 have hx3 : ∀ a, ad3 = some a -> w.heap.size + 1 ≠ a.block := fun a e => by have := FHT.out a e; omega
 have hr3 : ∀ a, ad3 = some a -> w.heap.size ≠ a.block := fun a e => by have := FHT.out a e; omega
 clear hg3
 have ltw3 : w.heap.size + 1 < w3.heap.size := X3.out.lt
 have y3 := X3.out
 obtain ⟨x0, x1, x2, x3, x4, x5, x6, x7, x8, x9, x10, x11, x12, x13, xf0, xf1, xf2, xf3, xf4, xf5, xf6, xf7, xf8, xf9, xf10, xf11, xf12, xf13, xlt⟩ := y3.d14
 clear y3
 have r3 := R3.out
 obtain ⟨c0, c1, c2, c3, c4, c5, c6, c7, c8, c9, c10, c11, c12, c13, cf0, cf1, cf2, cf3, cf4, cf5, cf6, cf7, cf8, cf9, cf10, cf11, cf12, cf13, clt⟩ := r3.d14
 clear r3
 go_wp2
 have Q := Cs.fill14 ((R3.out.far ⟨w.heap.size + 1, 11, none⟩ (.string dn) (by simp)).far ⟨w.heap.size + 1, 12, none⟩ (.slice ad3 dS.length cap3) (by simp)) rfl (.int .i64 ((3 : Nat) : Int)) (.int .i64 0) (.int .i64 0) (.int .i64 0) (.slice none 0 0) (.int .i64 0) (.int .i64 0) (.string ⟨#[]⟩) (.slice none 0 0) (.string ⟨#[]⟩) (.int .i64 0) (.string dn) (.slice ad3 dS.length cap3) (.string ⟨#[]⟩)
 obtain ⟨k0', k1', k2', k3', k4', k5', k6', k7', k8', k9', k10', k11', k12', k13', klt⟩ := Q.c14
 clear Q
 exact bodyPost_ret (v := .tuple #[.agg #[.int .i64 ((3 : Nat) : Int), .int .i64 0, .int .i64 0, .int .i64 0, .slice none 0 0, .int .i64 0, .int .i64 0, .string ⟨#[]⟩, .slice none 0 0, .string ⟨#[]⟩, .int .i64 0, .string dn, .slice ad3 dS.length cap3, .string ⟨#[]⟩], .bool true]) (by simp [results, Tryz.results50, go_sem, *]) rfl ⟨none, 0, none, 0, ad3, cap3, rfl, HopsAt.nil, RowAt.nil, (((HT3.out.far ⟨w.heap.size + 1, 11, none⟩ (.string dn) hx3).far ⟨w.heap.size + 1, 12, none⟩ (.slice ad3 dS.length cap3) hx3).far14 w.heap.size hr3 _ _ _ _ _ _ _ _ _ _ _ _ _ _), (fun a e => (by cases e)), (fun a e => (by cases e)), (fun a e => by have := FHT.out a e; omega), ((G3.out.set ⟨w.heap.size + 1, 11, none⟩ (by simp) (.string dn)).set ⟨w.heap.size + 1, 12, none⟩ (by simp) (.slice ad3 dS.length cap3)).set14 w.heap.size (Nat.le_refl _) _ _ _ _ _ _ _ _ _ _ _ _ _ _⟩

theorem qread5 (s : ByteArray) (w : World) (hs : s.size <= 140737488355328) (hb : Rc.tkB s.data.toList 0 true = true) (hk : Rc.fk s.data.toList = 5) (he : (Rc.fx1 s.data.toList).2.2 = 0) :
  Calls Tryz.prog 50 #[.string s] w fun e w' => QrdR ⟨5, Rc.zM, ⟨#[]⟩, 0, ⟨#[]⟩, [], ⟨(Rc.fx1 s.data.toList).1.toArray⟩⟩ true w e w' := by
 have HK : Hid (∀ w' : World, Calls Tryz.prog 74 #[.string s, .int .i64 0, .bool true] w' fun e w2 => e = .returned (.tuple #[.int .i64 (Rc.tkV s.data.toList 0 true : Nat), .int .i64 (Rc.tkP s.data.toList 0 true : Nat), .bool (Rc.tkB s.data.toList 0 true)]) /\ Gr w' w2) := fun w' => qtake_any s 0 true w' hs
 unfold QrdR
 unfold Rc.fk at hk
 rw [hb, hk] at HK
 have HX : Hid (∀ w' : World, Calls Tryz.prog 75 #[.string s, .int .i64 (Rc.fp s.data.toList : Nat)] w' fun e w2 => e = .returned (.tuple #[.string ⟨(Rc.fx1 s.data.toList).1.toArray⟩, .int .i64 (Rc.fx1 s.data.toList).2.1, .int .i64 (Rc.fx1 s.data.toList).2.2]) /\ Gr w' w2) := fun w' => refTakeText_any s (Rc.fp s.data.toList : Nat) w' hs
 have HFP : Hid (Rc.tkP s.data.toList 0 true = Rc.fp s.data.toList) := rfl
 rw [HFP.out] at HK
 rw [he] at HX
 generalize (Rc.fx1 s.data.toList).1 = tx at *
 generalize (Rc.fx1 s.data.toList).2.1 = q1 at *
 generalize Rc.fp s.data.toList = p0 at *
 clear hb hk hs he HFP
 go_enter Tryz.func50, Tryz.ntmps50
 go_wp2_with fail
 refine (HK.out _).mono ?_
 rintro e1 w1 ⟨rfl, hg1⟩
 have R1 := Lib.hid (((Cs.new w _ _ _ rfl).alloc).gr hg1)
 have X1 : Hid (Cs w1 (w.heap.size + 1) _) := (Cs.new _ _ _ _ (by simp)).gr hg1
 have G1 : Hid (Gr w w1) := (((Gr.refl w).alloc.alloc)).trans hg1
 clear hg1
 have ltw1 : w.heap.size + 1 < w1.heap.size := X1.out.lt
 have y1 := X1.out
 obtain ⟨x0, x1, x2, x3, x4, x5, x6, x7, x8, x9, x10, x11, x12, x13, xf0, xf1, xf2, xf3, xf4, xf5, xf6, xf7, xf8, xf9, xf10, xf11, xf12, xf13, xlt⟩ := y1.d14
 clear y1
 go_wp2_with fail
 refine (HX.out _).mono ?_
 rintro e2 w2 ⟨rfl, hg2⟩
 have R2 := Lib.hid (((R1.out.far ⟨w.heap.size + 1, 0, none⟩ (.int .i64 ((5 : Nat) : Int)) (by simp))).gr hg2)
 have X2 : Hid (Cs w2 (w.heap.size + 1) [.int .i64 ((5 : Nat) : Int), .int .i64 0, .int .i64 0, .int .i64 0, .slice none 0 0, .int .i64 0, .int .i64 0, .string ⟨#[]⟩, .slice none 0 0, .string ⟨#[]⟩, .int .i64 0, .string ⟨#[]⟩, .slice none 0 0, .string ⟨#[]⟩]) := ((X1.out.set 0 (by simp) (.int .i64 ((5 : Nat) : Int)))).gr hg2
 clear x0 xf0 x1 xf1 x2 xf2 x3 xf3 x4 xf4 x5 xf5 x6 xf6 x7 xf7 x8 xf8 x9 xf9 x10 xf10 x11 xf11 x12 xf12 x13 xf13 xlt
 have G2 : Hid (Gr w w2) := ((G1.out.set ⟨w.heap.size + 1, 0, none⟩ (by simp) (.int .i64 ((5 : Nat) : Int)))).trans hg2
 clear hg2
 have ltw2 : w.heap.size + 1 < w2.heap.size := X2.out.lt
 have y2 := X2.out
 obtain ⟨x0, x1, x2, x3, x4, x5, x6, x7, x8, x9, x10, x11, x12, x13, xf0, xf1, xf2, xf3, xf4, xf5, xf6, xf7, xf8, xf9, xf10, xf11, xf12, xf13, xlt⟩ := y2.d14
 clear y2
 have r2 := R2.out
 obtain ⟨c0, c1, c2, c3, c4, c5, c6, c7, c8, c9, c10, c11, c12, c13, cf0, cf1, cf2, cf3, cf4, cf5, cf6, cf7, cf8, cf9, cf10, cf11, cf12, cf13, clt⟩ := r2.d14
 clear r2
 go_wp2
 have Q := Cs.fill14 (R2.out.far ⟨w.heap.size + 1, 13, none⟩ (.string ⟨tx.toArray⟩) (by simp)) rfl (.int .i64 ((5 : Nat) : Int)) (.int .i64 0) (.int .i64 0) (.int .i64 0) (.slice none 0 0) (.int .i64 0) (.int .i64 0) (.string ⟨#[]⟩) (.slice none 0 0) (.string ⟨#[]⟩) (.int .i64 0) (.string ⟨#[]⟩) (.slice none 0 0) (.string ⟨tx.toArray⟩)
 obtain ⟨k0', k1', k2', k3', k4', k5', k6', k7', k8', k9', k10', k11', k12', k13', klt⟩ := Q.c14
 clear Q
 exact bodyPost_ret (v := .tuple #[.agg #[.int .i64 ((5 : Nat) : Int), .int .i64 0, .int .i64 0, .int .i64 0, .slice none 0 0, .int .i64 0, .int .i64 0, .string ⟨#[]⟩, .slice none 0 0, .string ⟨#[]⟩, .int .i64 0, .string ⟨#[]⟩, .slice none 0 0, .string ⟨tx.toArray⟩], .bool true]) (by simp [results, Tryz.results50, go_sem, *]) rfl ⟨none, 0, none, 0, none, 0, rfl, HopsAt.nil, RowAt.nil, RowAt.nil, (fun a e => (by cases e)), (fun a e => (by cases e)), (fun a e => (by cases e)), (G2.out.set ⟨w.heap.size + 1, 13, none⟩ (by simp) (.string ⟨tx.toArray⟩)).set14 w.heap.size (Nat.le_refl _) _ _ _ _ _ _ _ _ _ _ _ _ _ _⟩

theorem qreadk (s : ByteArray) (w : World) (hs : s.size <= 140737488355328) (hb : Rc.tkB s.data.toList 0 true = true) (kk : Nat) (n1 : ((kk : Int) == 1) = false) (n2 : ((kk : Int) == 2) = false) (n3 : ((kk : Int) == 3) = false) (n4 : ((kk : Int) == 4) = false) (n5 : ((kk : Int) == 5) = false) (hk : Rc.fk s.data.toList = kk) (he : (Rc.fx1 s.data.toList).2.2 = 0) :
  Calls Tryz.prog 50 #[.string s] w fun e w' => QrdR ⟨(kk : Int), Rc.zM, ⟨#[]⟩, 0, ⟨#[]⟩, [], ⟨#[]⟩⟩ true w e w' := by
 have HK : Hid (∀ w' : World, Calls Tryz.prog 74 #[.string s, .int .i64 0, .bool true] w' fun e w2 => e = .returned (.tuple #[.int .i64 (Rc.tkV s.data.toList 0 true : Nat), .int .i64 (Rc.tkP s.data.toList 0 true : Nat), .bool (Rc.tkB s.data.toList 0 true)]) /\ Gr w' w2) := fun w' => qtake_any s 0 true w' hs
 unfold QrdR
 unfold Rc.fk at hk
 rw [hb, hk] at HK
 have HX : Hid (∀ w' : World, Calls Tryz.prog 75 #[.string s, .int .i64 (Rc.fp s.data.toList : Nat)] w' fun e w2 => e = .returned (.tuple #[.string ⟨(Rc.fx1 s.data.toList).1.toArray⟩, .int .i64 (Rc.fx1 s.data.toList).2.1, .int .i64 (Rc.fx1 s.data.toList).2.2]) /\ Gr w' w2) := fun w' => refTakeText_any s (Rc.fp s.data.toList : Nat) w' hs
 have HFP : Hid (Rc.tkP s.data.toList 0 true = Rc.fp s.data.toList) := rfl
 rw [HFP.out] at HK
 rw [he] at HX
 generalize (Rc.fx1 s.data.toList).1 = tx at *
 generalize (Rc.fx1 s.data.toList).2.1 = q1 at *
 generalize Rc.fp s.data.toList = p0 at *
 clear hb hk hs he HFP
 go_enter Tryz.func50, Tryz.ntmps50
 go_wp2_with fail
 refine (HK.out _).mono ?_
 rintro e1 w1 ⟨rfl, hg1⟩
 have R1 := Lib.hid (((Cs.new w _ _ _ rfl).alloc).gr hg1)
 have X1 : Hid (Cs w1 (w.heap.size + 1) _) := (Cs.new _ _ _ _ (by simp)).gr hg1
 have G1 : Hid (Gr w w1) := (((Gr.refl w).alloc.alloc)).trans hg1
 clear hg1
 have ltw1 : w.heap.size + 1 < w1.heap.size := X1.out.lt
 have y1 := X1.out
 obtain ⟨x0, x1, x2, x3, x4, x5, x6, x7, x8, x9, x10, x11, x12, x13, xf0, xf1, xf2, xf3, xf4, xf5, xf6, xf7, xf8, xf9, xf10, xf11, xf12, xf13, xlt⟩ := y1.d14
 clear y1
 go_wp2_with fail
 refine (HX.out _).mono ?_
 rintro e2 w2 ⟨rfl, hg2⟩
 have R2 := Lib.hid (((R1.out.far ⟨w.heap.size + 1, 0, none⟩ (.int .i64 ((kk : Nat) : Int)) (by simp))).gr hg2)
 have X2 : Hid (Cs w2 (w.heap.size + 1) [.int .i64 ((kk : Nat) : Int), .int .i64 0, .int .i64 0, .int .i64 0, .slice none 0 0, .int .i64 0, .int .i64 0, .string ⟨#[]⟩, .slice none 0 0, .string ⟨#[]⟩, .int .i64 0, .string ⟨#[]⟩, .slice none 0 0, .string ⟨#[]⟩]) := ((X1.out.set 0 (by simp) (.int .i64 ((kk : Nat) : Int)))).gr hg2
 clear x0 xf0 x1 xf1 x2 xf2 x3 xf3 x4 xf4 x5 xf5 x6 xf6 x7 xf7 x8 xf8 x9 xf9 x10 xf10 x11 xf11 x12 xf12 x13 xf13 xlt
 have G2 : Hid (Gr w w2) := ((G1.out.set ⟨w.heap.size + 1, 0, none⟩ (by simp) (.int .i64 ((kk : Nat) : Int)))).trans hg2
 clear hg2
 have ltw2 : w.heap.size + 1 < w2.heap.size := X2.out.lt
 have y2 := X2.out
 obtain ⟨x0, x1, x2, x3, x4, x5, x6, x7, x8, x9, x10, x11, x12, x13, xf0, xf1, xf2, xf3, xf4, xf5, xf6, xf7, xf8, xf9, xf10, xf11, xf12, xf13, xlt⟩ := y2.d14
 clear y2
 have r2 := R2.out
 obtain ⟨c0, c1, c2, c3, c4, c5, c6, c7, c8, c9, c10, c11, c12, c13, cf0, cf1, cf2, cf3, cf4, cf5, cf6, cf7, cf8, cf9, cf10, cf11, cf12, cf13, clt⟩ := r2.d14
 clear r2
 go_wp2
 have Q := Cs.fill14 R2.out rfl (.int .i64 ((kk : Nat) : Int)) (.int .i64 0) (.int .i64 0) (.int .i64 0) (.slice none 0 0) (.int .i64 0) (.int .i64 0) (.string ⟨#[]⟩) (.slice none 0 0) (.string ⟨#[]⟩) (.int .i64 0) (.string ⟨#[]⟩) (.slice none 0 0) (.string ⟨#[]⟩)
 obtain ⟨k0', k1', k2', k3', k4', k5', k6', k7', k8', k9', k10', k11', k12', k13', klt⟩ := Q.c14
 clear Q
 exact bodyPost_ret (v := .tuple #[.agg #[.int .i64 ((kk : Nat) : Int), .int .i64 0, .int .i64 0, .int .i64 0, .slice none 0 0, .int .i64 0, .int .i64 0, .string ⟨#[]⟩, .slice none 0 0, .string ⟨#[]⟩, .int .i64 0, .string ⟨#[]⟩, .slice none 0 0, .string ⟨#[]⟩], .bool true]) (by simp [results, Tryz.results50, go_sem, *]) rfl ⟨none, 0, none, 0, none, 0, rfl, HopsAt.nil, RowAt.nil, RowAt.nil, (fun a e => (by cases e)), (fun a e => (by cases e)), (fun a e => (by cases e)), G2.out.set14 w.heap.size (Nat.le_refl _) _ _ _ _ _ _ _ _ _ _ _ _ _ _⟩

end Go.Proofs.YthaadiclopoamaaGreatDoor
