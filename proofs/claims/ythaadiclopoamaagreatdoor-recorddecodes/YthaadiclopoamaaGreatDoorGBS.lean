/- Parts of these proofs, laid together. -/
import Derived.Test.YthaadiclopoamaaGreatDoorGBR
/- the document's record: what is read of bytes, a move. -/
set_option maxRecDepth 100000
set_option maxHeartbeats 8000000
namespace Go.Proofs.YthaadiclopoamaaGreatDoor
open Go.RowKit
open Df (Stp)

theorem qread1n (s : ByteArray) (w : World) (hs : s.size <= 140737488355328) (hb : Rc.tkB s.data.toList 0 true = true) (hk : Rc.fk s.data.toList = 1) (h5 : Rc.fo5 s.data.toList = false) :
  Calls Tryz.prog 50 #[.string s] w fun e w' => QrdR ⟨1, Rc.zM, ⟨#[]⟩, 0, ⟨#[]⟩, [], ⟨#[]⟩⟩ false w e w' := by
 have HK : Hid (∀ w' : World, Calls Tryz.prog 74 #[.string s, .int .i64 0, .bool true] w' fun e w2 => e = .returned (.tuple #[.int .i64 (Rc.tkV s.data.toList 0 true : Nat), .int .i64 (Rc.tkP s.data.toList 0 true : Nat), .bool (Rc.tkB s.data.toList 0 true)]) /\ Gr w' w2) := fun w' => qtake_any s 0 true w' hs
 unfold QrdR
 unfold Rc.fk at hk
 rw [hb, hk] at HK
 have HFP : Hid (Rc.tkP s.data.toList 0 true = Rc.fp s.data.toList) := rfl
 rw [HFP.out] at HK
 have H1 : Hid (∀ w' : World, Calls Tryz.prog 74 #[.string s, .int .i64 (Rc.fp s.data.toList : Nat), .bool true] w' fun e w2 => e = .returned (.tuple #[.int .i64 (Rc.tkV s.data.toList (Rc.fp s.data.toList) true : Nat), .int .i64 (Rc.fp1 s.data.toList : Nat), .bool (Rc.tkB s.data.toList (Rc.fp s.data.toList) true)]) /\ Gr w' w2) := fun w' => qtake_any s (Rc.fp s.data.toList) (true) w' hs
 have H2 : Hid (∀ w' : World, Calls Tryz.prog 75 #[.string s, .int .i64 (Rc.fp1 s.data.toList : Nat)] w' fun e w2 => e = .returned (.tuple #[.string ⟨(Rc.fx2 s.data.toList).1.toArray⟩, .int .i64 (Rc.fx2 s.data.toList).2.1, .int .i64 (Rc.fx2 s.data.toList).2.2]) /\ Gr w' w2) := fun w' => refTakeText_any s (Rc.fp1 s.data.toList : Nat) w' hs
 have H3 : Hid (∀ w' : World, Calls Tryz.prog 74 #[.string s, .int .i64 ((Rc.fx2 s.data.toList).2.1 : Nat), .bool (Rc.fo3 s.data.toList)] w' fun e w2 => e = .returned (.tuple #[.int .i64 (Rc.tkV s.data.toList (Rc.fx2 s.data.toList).2.1 (Rc.fo3 s.data.toList) : Nat), .int .i64 (Rc.fp3 s.data.toList : Nat), .bool (Rc.fo4 s.data.toList)]) /\ Gr w' w2) := fun w' => qtake_any s ((Rc.fx2 s.data.toList).2.1) ((Rc.fo3 s.data.toList)) w' hs
 have H4 : Hid (∀ w' : World, Calls Tryz.prog 74 #[.string s, .int .i64 (Rc.fp3 s.data.toList : Nat), .bool (Rc.fo4 s.data.toList)] w' fun e w2 => e = .returned (.tuple #[.int .i64 (Rc.tkV s.data.toList (Rc.fp3 s.data.toList) (Rc.fo4 s.data.toList) : Nat), .int .i64 (Rc.fp4 s.data.toList : Nat), .bool (Rc.fo5 s.data.toList)]) /\ Gr w' w2) := fun w' => qtake_any s (Rc.fp3 s.data.toList) ((Rc.fo4 s.data.toList)) w' hs
 have HO3 : Hid (Rc.fo3 s.data.toList = (Rc.tkB s.data.toList (Rc.fp s.data.toList) true && decide ((Rc.fx2 s.data.toList).2.2 = 0))) := rfl
 rw [h5] at H4
 generalize Rc.tkV s.data.toList (Rc.fp s.data.toList) true = v1 at *
 generalize Rc.tkB s.data.toList (Rc.fp s.data.toList) true = b1 at *
 generalize Rc.tkV s.data.toList (Rc.fx2 s.data.toList).2.1 (Rc.fo3 s.data.toList) = v3 at *
 generalize Rc.tkV s.data.toList (Rc.fp3 s.data.toList) (Rc.fo4 s.data.toList) = v4 at *
 generalize Rc.fp s.data.toList = p0 at *
 generalize Rc.fp1 s.data.toList = p1 at *
 generalize Rc.fo3 s.data.toList = b3 at *
 generalize Rc.fp3 s.data.toList = p3 at *
 generalize Rc.fo4 s.data.toList = b4 at *
 generalize Rc.fp4 s.data.toList = p4 at *
 generalize (Rc.fx2 s.data.toList).1 = tx at *
 generalize (Rc.fx2 s.data.toList).2.1 = p2 at *
 generalize (Rc.fx2 s.data.toList).2.2 = e2 at *
 have hq2 : ((e2 : Int) == 0) = decide (e2 = 0) := by
  by_cases q : e2 = 0
  ·subst q; rfl
  ·rw [decide_eq_false q]; simpa using q
 clear hb hk hs HFP h5
 generalize decide (e2 = 0) = d2 at *
 cases b1 with
 | false =>
  obtain rfl : b3 = false := HO3.out
  go_enter Tryz.func50, Tryz.ntmps50
  go_wp2_with fail
  refine (HK.out _).mono ?_
  rintro e1 w1 ⟨rfl, hg1⟩
  have R1 := Lib.hid (((Cs.new w _ _ _ rfl).alloc).gr hg1)
  have X1 : Hid (Cs w1 (w.heap.size + 1) _) := (Cs.new _ _ _ _ (by simp)).gr hg1
  have G1 : Hid (Gr w w1) := (((Gr.refl w).alloc.alloc)).trans hg1
  clear hg1
  have ltw1 : w.heap.size + 1 < w1.heap.size := X1.out.lt
  have y1 := X1.out
  obtain ⟨x0, x1, x2, x3, x4, x5, x6, x7, x8, x9, x10, x11, x12, x13, xf0, xf1, xf2, xf3, xf4, xf5, xf6, xf7, xf8, xf9, xf10, xf11, xf12, xf13, xlt⟩ := y1.d14
  clear y1
  go_wp2_with fail
  refine (H1.out _).mono ?_
  rintro f2 w2 ⟨rfl, hg2⟩
  have R2 := Lib.hid (((R1.out.far ⟨w.heap.size + 1, 0, none⟩ (.int .i64 ((1 : Nat) : Int)) (by simp))).gr hg2)
  have X2 : Hid (Cs w2 (w.heap.size + 1) [.int .i64 ((1 : Nat) : Int), .int .i64 0, .int .i64 0, .int .i64 0, .slice none 0 0, .int .i64 0, .int .i64 0, .string ⟨#[]⟩, .slice none 0 0, .string ⟨#[]⟩, .int .i64 0, .string ⟨#[]⟩, .slice none 0 0, .string ⟨#[]⟩]) := ((X1.out.set 0 (by simp) (.int .i64 ((1 : Nat) : Int)))).gr hg2
  clear x0 xf0 x1 xf1 x2 xf2 x3 xf3 x4 xf4 x5 xf5 x6 xf6 x7 xf7 x8 xf8 x9 xf9 x10 xf10 x11 xf11 x12 xf12 x13 xf13 xlt
  have G2 : Hid (Gr w w2) := ((G1.out.set ⟨w.heap.size + 1, 0, none⟩ (by simp) (.int .i64 ((1 : Nat) : Int)))).trans hg2
  clear hg2
  have ltw2 : w.heap.size + 1 < w2.heap.size := X2.out.lt
  go_wp2_with fail
  refine (H2.out _).mono ?_
  rintro f3 w3 ⟨rfl, hg3⟩
  have R3 := Lib.hid ((R2.out).gr hg3)
  have X3 := Lib.hid ((X2.out).gr hg3)
  have G3 : Hid (Gr w w3) := (G2.out).trans hg3
  clear hg3
  have ltw3 : w.heap.size + 1 < w3.heap.size := X3.out.lt
  go_wp2_with fail
  refine (H3.out _).mono ?_
  rintro f4 w4 ⟨rfl, hg4⟩
  have R4 := Lib.hid ((R3.out).gr hg4)
  have X4 := Lib.hid ((X3.out).gr hg4)
  have G4 : Hid (Gr w w4) := (G3.out).trans hg4
  clear hg4
  have ltw4 : w.heap.size + 1 < w4.heap.size := X4.out.lt
  go_wp2_with fail
  refine (H4.out _).mono ?_
  rintro f5 w5 ⟨rfl, hg5⟩
  have R5 := Lib.hid ((R4.out).gr hg5)
  have X5 := Lib.hid ((X4.out).gr hg5)
  have G5 : Hid (Gr w w5) := (G4.out).trans hg5
  clear hg5
  have ltw5 : w.heap.size + 1 < w5.heap.size := X5.out.lt
  have y5 := X5.out
  obtain ⟨x0, x1, x2, x3, x4, x5, x6, x7, x8, x9, x10, x11, x12, x13, xf0, xf1, xf2, xf3, xf4, xf5, xf6, xf7, xf8, xf9, xf10, xf11, xf12, xf13, xlt⟩ := y5.d14
  clear y5
  have r5 := R5.out
  obtain ⟨c0, c1, c2, c3, c4, c5, c6, c7, c8, c9, c10, c11, c12, c13, cf0, cf1, cf2, cf3, cf4, cf5, cf6, cf7, cf8, cf9, cf10, cf11, cf12, cf13, clt⟩ := r5.d14
  clear r5
  go_wp2
  have Q := Cs.fill14 R5.out rfl (.int .i64 ((1 : Nat) : Int)) (.int .i64 0) (.int .i64 0) (.int .i64 0) (.slice none 0 0) (.int .i64 0) (.int .i64 0) (.string ⟨#[]⟩) (.slice none 0 0) (.string ⟨#[]⟩) (.int .i64 0) (.string ⟨#[]⟩) (.slice none 0 0) (.string ⟨#[]⟩)
  obtain ⟨k0', k1', k2', k3', k4', k5', k6', k7', k8', k9', k10', k11', k12', k13', klt⟩ := Q.c14
  clear Q
  exact bodyPost_ret (v := .tuple #[.agg #[.int .i64 ((1 : Nat) : Int), .int .i64 0, .int .i64 0, .int .i64 0, .slice none 0 0, .int .i64 0, .int .i64 0, .string ⟨#[]⟩, .slice none 0 0, .string ⟨#[]⟩, .int .i64 0, .string ⟨#[]⟩, .slice none 0 0, .string ⟨#[]⟩], .bool false]) (by simp [results, Tryz.results50, go_sem, *]) rfl ⟨none, 0, none, 0, none, 0, rfl, HopsAt.nil, RowAt.nil, RowAt.nil, (fun a e => (by cases e)), (fun a e => (by cases e)), (fun a e => (by cases e)), G5.out.set14 w.heap.size (Nat.le_refl _) _ _ _ _ _ _ _ _ _ _ _ _ _ _⟩
 | true =>
  obtain rfl : b3 = d2 := HO3.out
  go_enter Tryz.func50, Tryz.ntmps50
  go_wp2_with fail
  refine (HK.out _).mono ?_
  rintro e1 w1 ⟨rfl, hg1⟩
  have R1 := Lib.hid (((Cs.new w _ _ _ rfl).alloc).gr hg1)
  have X1 : Hid (Cs w1 (w.heap.size + 1) _) := (Cs.new _ _ _ _ (by simp)).gr hg1
  have G1 : Hid (Gr w w1) := (((Gr.refl w).alloc.alloc)).trans hg1
  clear hg1
  have ltw1 : w.heap.size + 1 < w1.heap.size := X1.out.lt
  have y1 := X1.out
  obtain ⟨x0, x1, x2, x3, x4, x5, x6, x7, x8, x9, x10, x11, x12, x13, xf0, xf1, xf2, xf3, xf4, xf5, xf6, xf7, xf8, xf9, xf10, xf11, xf12, xf13, xlt⟩ := y1.d14
  clear y1
  go_wp2_with fail
  refine (H1.out _).mono ?_
  rintro f2 w2 ⟨rfl, hg2⟩
  have R2 := Lib.hid (((R1.out.far ⟨w.heap.size + 1, 0, none⟩ (.int .i64 ((1 : Nat) : Int)) (by simp))).gr hg2)
  have X2 : Hid (Cs w2 (w.heap.size + 1) [.int .i64 ((1 : Nat) : Int), .int .i64 0, .int .i64 0, .int .i64 0, .slice none 0 0, .int .i64 0, .int .i64 0, .string ⟨#[]⟩, .slice none 0 0, .string ⟨#[]⟩, .int .i64 0, .string ⟨#[]⟩, .slice none 0 0, .string ⟨#[]⟩]) := ((X1.out.set 0 (by simp) (.int .i64 ((1 : Nat) : Int)))).gr hg2
  clear x0 xf0 x1 xf1 x2 xf2 x3 xf3 x4 xf4 x5 xf5 x6 xf6 x7 xf7 x8 xf8 x9 xf9 x10 xf10 x11 xf11 x12 xf12 x13 xf13 xlt
  have G2 : Hid (Gr w w2) := ((G1.out.set ⟨w.heap.size + 1, 0, none⟩ (by simp) (.int .i64 ((1 : Nat) : Int)))).trans hg2
  clear hg2
  have ltw2 : w.heap.size + 1 < w2.heap.size := X2.out.lt
  go_wp2_with fail
  refine (H2.out _).mono ?_
  rintro f3 w3 ⟨rfl, hg3⟩
  have R3 := Lib.hid ((R2.out).gr hg3)
  have X3 := Lib.hid ((X2.out).gr hg3)
  have G3 : Hid (Gr w w3) := (G2.out).trans hg3
  clear hg3
  have ltw3 : w.heap.size + 1 < w3.heap.size := X3.out.lt
  go_wp2_with fail
  refine (H3.out _).mono ?_
  rintro f4 w4 ⟨rfl, hg4⟩
  have R4 := Lib.hid ((R3.out).gr hg4)
  have X4 := Lib.hid ((X3.out).gr hg4)
  have G4 : Hid (Gr w w4) := (G3.out).trans hg4
  clear hg4
  have ltw4 : w.heap.size + 1 < w4.heap.size := X4.out.lt
  go_wp2_with fail
  refine (H4.out _).mono ?_
  rintro f5 w5 ⟨rfl, hg5⟩
  have R5 := Lib.hid ((R4.out).gr hg5)
  have X5 := Lib.hid ((X4.out).gr hg5)
  have G5 : Hid (Gr w w5) := (G4.out).trans hg5
  clear hg5
  have ltw5 : w.heap.size + 1 < w5.heap.size := X5.out.lt
  have y5 := X5.out
  obtain ⟨x0, x1, x2, x3, x4, x5, x6, x7, x8, x9, x10, x11, x12, x13, xf0, xf1, xf2, xf3, xf4, xf5, xf6, xf7, xf8, xf9, xf10, xf11, xf12, xf13, xlt⟩ := y5.d14
  clear y5
  have r5 := R5.out
  obtain ⟨c0, c1, c2, c3, c4, c5, c6, c7, c8, c9, c10, c11, c12, c13, cf0, cf1, cf2, cf3, cf4, cf5, cf6, cf7, cf8, cf9, cf10, cf11, cf12, cf13, clt⟩ := r5.d14
  clear r5
  go_wp2
  have Q := Cs.fill14 R5.out rfl (.int .i64 ((1 : Nat) : Int)) (.int .i64 0) (.int .i64 0) (.int .i64 0) (.slice none 0 0) (.int .i64 0) (.int .i64 0) (.string ⟨#[]⟩) (.slice none 0 0) (.string ⟨#[]⟩) (.int .i64 0) (.string ⟨#[]⟩) (.slice none 0 0) (.string ⟨#[]⟩)
  obtain ⟨k0', k1', k2', k3', k4', k5', k6', k7', k8', k9', k10', k11', k12', k13', klt⟩ := Q.c14
  clear Q
  exact bodyPost_ret (v := .tuple #[.agg #[.int .i64 ((1 : Nat) : Int), .int .i64 0, .int .i64 0, .int .i64 0, .slice none 0 0, .int .i64 0, .int .i64 0, .string ⟨#[]⟩, .slice none 0 0, .string ⟨#[]⟩, .int .i64 0, .string ⟨#[]⟩, .slice none 0 0, .string ⟨#[]⟩], .bool false]) (by simp [results, Tryz.results50, go_sem, *]) rfl ⟨none, 0, none, 0, none, 0, rfl, HopsAt.nil, RowAt.nil, RowAt.nil, (fun a e => (by cases e)), (fun a e => (by cases e)), (fun a e => (by cases e)), G5.out.set14 w.heap.size (Nat.le_refl _) _ _ _ _ _ _ _ _ _ _ _ _ _ _⟩

theorem qread1y (s : ByteArray) (w : World) (hs : s.size <= 140737488355328) (hb : Rc.tkB s.data.toList 0 true = true) (hk : Rc.fk s.data.toList = 1) (h5 : Rc.fo5 s.data.toList = true) :
  Calls Tryz.prog 50 #[.string s] w fun e w' => QrdR ⟨1, Rc.rfM s.data.toList, ⟨#[]⟩, 0, ⟨#[]⟩, [], ⟨#[]⟩⟩ (decide ((Rc.fx5 s.data.toList).2.2 = 0) && parB (Rc.fx2 s.data.toList).1) w e w' := by
 have HK : Hid (∀ w' : World, Calls Tryz.prog 74 #[.string s, .int .i64 0, .bool true] w' fun e w2 => e = .returned (.tuple #[.int .i64 (Rc.tkV s.data.toList 0 true : Nat), .int .i64 (Rc.tkP s.data.toList 0 true : Nat), .bool (Rc.tkB s.data.toList 0 true)]) /\ Gr w' w2) := fun w' => qtake_any s 0 true w' hs
 unfold QrdR
 unfold Rc.fk at hk
 rw [hb, hk] at HK
 have HFP : Hid (Rc.tkP s.data.toList 0 true = Rc.fp s.data.toList) := rfl
 rw [HFP.out] at HK
 have H1 : Hid (∀ w' : World, Calls Tryz.prog 74 #[.string s, .int .i64 (Rc.fp s.data.toList : Nat), .bool true] w' fun e w2 => e = .returned (.tuple #[.int .i64 (Rc.tkV s.data.toList (Rc.fp s.data.toList) true : Nat), .int .i64 (Rc.fp1 s.data.toList : Nat), .bool (Rc.tkB s.data.toList (Rc.fp s.data.toList) true)]) /\ Gr w' w2) := fun w' => qtake_any s (Rc.fp s.data.toList) (true) w' hs
 have H2 : Hid (∀ w' : World, Calls Tryz.prog 75 #[.string s, .int .i64 (Rc.fp1 s.data.toList : Nat)] w' fun e w2 => e = .returned (.tuple #[.string ⟨(Rc.fx2 s.data.toList).1.toArray⟩, .int .i64 (Rc.fx2 s.data.toList).2.1, .int .i64 (Rc.fx2 s.data.toList).2.2]) /\ Gr w' w2) := fun w' => refTakeText_any s (Rc.fp1 s.data.toList : Nat) w' hs
 have H3 : Hid (∀ w' : World, Calls Tryz.prog 74 #[.string s, .int .i64 ((Rc.fx2 s.data.toList).2.1 : Nat), .bool (Rc.fo3 s.data.toList)] w' fun e w2 => e = .returned (.tuple #[.int .i64 (Rc.tkV s.data.toList (Rc.fx2 s.data.toList).2.1 (Rc.fo3 s.data.toList) : Nat), .int .i64 (Rc.fp3 s.data.toList : Nat), .bool (Rc.fo4 s.data.toList)]) /\ Gr w' w2) := fun w' => qtake_any s ((Rc.fx2 s.data.toList).2.1) ((Rc.fo3 s.data.toList)) w' hs
 have H4 : Hid (∀ w' : World, Calls Tryz.prog 74 #[.string s, .int .i64 (Rc.fp3 s.data.toList : Nat), .bool (Rc.fo4 s.data.toList)] w' fun e w2 => e = .returned (.tuple #[.int .i64 (Rc.tkV s.data.toList (Rc.fp3 s.data.toList) (Rc.fo4 s.data.toList) : Nat), .int .i64 (Rc.fp4 s.data.toList : Nat), .bool (Rc.fo5 s.data.toList)]) /\ Gr w' w2) := fun w' => qtake_any s (Rc.fp3 s.data.toList) ((Rc.fo4 s.data.toList)) w' hs
 have HO3 : Hid (Rc.fo3 s.data.toList = (Rc.tkB s.data.toList (Rc.fp s.data.toList) true && decide ((Rc.fx2 s.data.toList).2.2 = 0))) := rfl
 rw [h5] at H4
 have h4 : Rc.fo4 s.data.toList = true := by unfold Rc.fo5 Rc.tkB at h5; simp only [Bool.and_eq_true] at h5; exact h5.1.1
 have h3 : Rc.fo3 s.data.toList = true := by unfold Rc.fo4 Rc.tkB at h4; simp only [Bool.and_eq_true] at h4; exact h4.1.1
 have hb1 : Rc.tkB s.data.toList (Rc.fp s.data.toList) true = true := by unfold Rc.fo3 at h3; simp only [Bool.and_eq_true] at h3; exact h3.1
 clear h3 h4
 have H5 : Hid (∀ w' : World, Calls Tryz.prog 75 #[.string s, .int .i64 (Rc.fp4 s.data.toList : Nat)] w' fun e w2 => e = .returned (.tuple #[.string ⟨(Rc.fx5 s.data.toList).1.toArray⟩, .int .i64 (Rc.fx5 s.data.toList).2.1, .int .i64 (Rc.fx5 s.data.toList).2.2]) /\ Gr w' w2) := fun w' => refTakeText_any s (Rc.fp4 s.data.toList : Nat) w' hs
 have hsz : s.data.toList.length = s.size := by simp
 have HP : Hid (∀ w' : World, Calls Tryz.prog 76 #[.string ⟨(Rc.fx2 s.data.toList).1.toArray⟩] w' fun e w2 => ∃ ad cap, e = .returned (.tuple #[.agg #[.int .i64 (Rc.ivR (Rc.fx2 s.data.toList).1), .int .i64 (Rc.ivN (Rc.fx2 s.data.toList).1), .slice ad (Rc.ivL (Rc.fx2 s.data.toList).1).length cap], .int .i64 (if parB (Rc.fx2 s.data.toList).1 = true then 0 else 30)]) /\ HopsAt w2 ad (Rc.ivL (Rc.fx2 s.data.toList).1) /\ (∀ a, ad = some a -> w'.heap.size <= a.block) /\ Gr w' w2) := fun w' => qparse_any _ w' (by have h1 := text_lenq s.data.toList (Rc.fp1 s.data.toList : Nat); unfold Rc.fx2; omega)
 have HD : Hid (∀ w' : World, Calls Tryz.prog 77 #[.string ⟨(Rc.fx5 s.data.toList).1.toArray⟩] w' fun e w2 => ∃ ad cap, e = .returned (.agg #[.string (tN (Rc.fx5 s.data.toList).1), .slice ad (tL (Rc.fx5 s.data.toList).1).length cap]) /\ StpsAt w2 ad (tL (Rc.fx5 s.data.toList).1) /\ (∀ a, ad = some a -> w'.heap.size < a.block) /\ Gr w' w2) := fun w' => qdf_any _ w' (by have h1 := text_lenq s.data.toList (Rc.fp4 s.data.toList : Nat); unfold Rc.fx5; omega)
 have HM : Hid (Rc.rfM s.data.toList = ⟨(Rc.tkV s.data.toList (Rc.fp s.data.toList) true : Int), Rc.ivR (Rc.fx2 s.data.toList).1, Rc.ivN (Rc.fx2 s.data.toList).1, Rc.ivL (Rc.fx2 s.data.toList).1, (Rc.tkV s.data.toList (Rc.fx2 s.data.toList).2.1 (Rc.fo3 s.data.toList) : Int), (Rc.tkV s.data.toList (Rc.fp3 s.data.toList) (Rc.fo4 s.data.toList) : Int), tN (Rc.fx5 s.data.toList).1, tL (Rc.fx5 s.data.toList).1⟩) := rfl
 rw [hb1] at H1 HO3
 rw [HM.out]
 simp only
 generalize Rc.tkV s.data.toList (Rc.fp s.data.toList) true = v1 at *
 generalize Rc.tkV s.data.toList (Rc.fx2 s.data.toList).2.1 (Rc.fo3 s.data.toList) = v3 at *
 generalize Rc.tkV s.data.toList (Rc.fp3 s.data.toList) (Rc.fo4 s.data.toList) = v4 at *
 generalize Rc.fp s.data.toList = p0 at *
 generalize Rc.fp1 s.data.toList = p1 at *
 generalize Rc.fo3 s.data.toList = b3 at *
 generalize Rc.fp3 s.data.toList = p3 at *
 generalize Rc.fo4 s.data.toList = b4 at *
 generalize Rc.fp4 s.data.toList = p4 at *
 generalize (Rc.fx2 s.data.toList).1 = tx at *
 generalize (Rc.fx2 s.data.toList).2.1 = p2 at *
 generalize (Rc.fx2 s.data.toList).2.2 = e2 at *
 generalize (Rc.fx5 s.data.toList).1 = ty at *
 generalize (Rc.fx5 s.data.toList).2.1 = p5 at *
 generalize (Rc.fx5 s.data.toList).2.2 = e5 at *
 generalize tN ty = dn at *
 generalize tL ty = dS at *
 generalize Rc.ivR tx = i1 at *
 generalize Rc.ivN tx = i2 at *
 generalize Rc.ivL tx = iL at *
 have hpe : ((if parB tx = true then (0 : Int) else 30) == 0) = parB tx := by cases parB tx <;> rfl
 generalize (if parB tx = true then (0 : Int) else 30) = pe at *
 generalize parB tx = bp at *
 have hq5 : ((e5 : Int) == 0) = decide (e5 = 0) := by
  by_cases q : e5 = 0
  ·subst q; rfl
  ·rw [decide_eq_false q]; simpa using q
 have hq2 : ((e2 : Int) == 0) = decide (e2 = 0) := by
  by_cases q : e2 = 0
  ·subst q; rfl
  ·rw [decide_eq_false q]; simpa using q
 clear hb hk hs HFP h5 hb1 hsz
 generalize decide (e2 = 0) = d2 at *
 generalize decide (e5 = 0) = d5 at *
 obtain rfl : b3 = d2 := HO3.out
 clear HO3 HM
 go_enter Tryz.func50, Tryz.ntmps50
 go_wp2_with fail
 refine (HK.out _).mono ?_
 rintro e1 w1 ⟨rfl, hg1⟩
 have R1 := Lib.hid (((Cs.new w _ _ _ rfl).alloc).gr hg1)
 have X1 : Hid (Cs w1 (w.heap.size + 1) _) := (Cs.new _ _ _ _ (by simp)).gr hg1
 have G1 : Hid (Gr w w1) := (((Gr.refl w).alloc.alloc)).trans hg1
 clear hg1
 have ltw1 : w.heap.size + 1 < w1.heap.size := X1.out.lt
 have y1 := X1.out
 obtain ⟨x0, x1, x2, x3, x4, x5, x6, x7, x8, x9, x10, x11, x12, x13, xf0, xf1, xf2, xf3, xf4, xf5, xf6, xf7, xf8, xf9, xf10, xf11, xf12, xf13, xlt⟩ := y1.d14
 clear y1
 go_wp2_with fail
 refine (H1.out _).mono ?_
 rintro f2 w2 ⟨rfl, hg2⟩
 have R2 := Lib.hid (((R1.out.far ⟨w.heap.size + 1, 0, none⟩ (.int .i64 ((1 : Nat) : Int)) (by simp))).gr hg2)
 have X2 : Hid (Cs w2 (w.heap.size + 1) [.int .i64 ((1 : Nat) : Int), .int .i64 0, .int .i64 0, .int .i64 0, .slice none 0 0, .int .i64 0, .int .i64 0, .string ⟨#[]⟩, .slice none 0 0, .string ⟨#[]⟩, .int .i64 0, .string ⟨#[]⟩, .slice none 0 0, .string ⟨#[]⟩]) := ((X1.out.set 0 (by simp) (.int .i64 ((1 : Nat) : Int)))).gr hg2
 clear x0 xf0 x1 xf1 x2 xf2 x3 xf3 x4 xf4 x5 xf5 x6 xf6 x7 xf7 x8 xf8 x9 xf9 x10 xf10 x11 xf11 x12 xf12 x13 xf13 xlt
 have G2 : Hid (Gr w w2) := ((G1.out.set ⟨w.heap.size + 1, 0, none⟩ (by simp) (.int .i64 ((1 : Nat) : Int)))).trans hg2
 clear hg2
 have ltw2 : w.heap.size + 1 < w2.heap.size := X2.out.lt
 go_wp2_with fail
 refine (H2.out _).mono ?_
 rintro f3 w3 ⟨rfl, hg3⟩
 have R3 := Lib.hid ((R2.out).gr hg3)
 have X3 := Lib.hid ((X2.out).gr hg3)
 have G3 : Hid (Gr w w3) := (G2.out).trans hg3
 clear hg3
 have ltw3 : w.heap.size + 1 < w3.heap.size := X3.out.lt
 go_wp2_with fail
 refine (H3.out _).mono ?_
 rintro f4 w4 ⟨rfl, hg4⟩
 have R4 := Lib.hid ((R3.out).gr hg4)
 have X4 := Lib.hid ((X3.out).gr hg4)
 have G4 : Hid (Gr w w4) := (G3.out).trans hg4
 clear hg4
 have ltw4 : w.heap.size + 1 < w4.heap.size := X4.out.lt
 go_wp2_with fail
 refine (H4.out _).mono ?_
 rintro f5 w5 ⟨rfl, hg5⟩
 have R5 := Lib.hid ((R4.out).gr hg5)
 have X5 := Lib.hid ((X4.out).gr hg5)
 have G5 : Hid (Gr w w5) := (G4.out).trans hg5
 clear hg5
 have ltw5 : w.heap.size + 1 < w5.heap.size := X5.out.lt
 go_wp2_with fail
 refine (H5.out _).mono ?_
 rintro f6 w6 ⟨rfl, hg6⟩
 have R6 := Lib.hid ((R5.out).gr hg6)
 have X6 := Lib.hid ((X5.out).gr hg6)
 have G6 : Hid (Gr w w6) := (G5.out).trans hg6
 clear hg6
 have ltw6 : w.heap.size + 1 < w6.heap.size := X6.out.lt
 go_wp2_with fail
 refine (HP.out _).mono ?_
 rintro f7 w7 ⟨ad1, cap1, rfl, hia, hf1, hg7⟩
 have R7 := Lib.hid ((R6.out).gr hg7)
 have X7 := Lib.hid ((X6.out).gr hg7)
 have G7 : Hid (Gr w w7) := (G6.out).trans hg7
 have FHH : Hid (∀ a, ad1 = some a -> w.heap.size + 1 < a.block) := fun a e => by have := hf1 a e; omega
 have HH7 := Lib.hid hia
 clear hia hf1
 have hx1 : ∀ a, ad1 = some a -> w.heap.size + 1 ≠ a.block := fun a e => by have := FHH.out a e; omega
 have hr1 : ∀ a, ad1 = some a -> w.heap.size ≠ a.block := fun a e => by have := FHH.out a e; omega
 clear hg7
 have ltw7 : w.heap.size + 1 < w7.heap.size := X7.out.lt
 go_upto_region 15 with fail
 have ID7 := Cs.new w7 [.int .i64 i1, .int .i64 i2, .slice ad1 iL.length cap1] 24 _ rfl
 refine beginL 8 (fun w' => Cs w' w7.heap.size [.int .i64 i1, .int .i64 i2, .slice ad1 iL.length cap1] /\ w'.cell? ⟨w7.heap.size, 0, none⟩ = some (.int .i64 i1) /\ w'.cell? ⟨w7.heap.size, 1, none⟩ = some (.int .i64 i2) /\ w'.cell? ⟨w7.heap.size, 2, none⟩ = some (.slice ad1 iL.length cap1)) (by kernel_rfl) (by first | exact ⟨ID7.drew, ID7.drew.at_ 0 _ rfl, ID7.drew.at_ 1 _ rfl, ID7.drew.at_ 2 _ rfl⟩ | exact ⟨ID8, ID8.at_ 0 _ rfl, ID8.at_ 1 _ rfl, ID8.at_ 2 _ rfl⟩) (fun hHeld => ?_)
 refine takeW 0 99 (v := ?_) rfl rfl (by decide) (by kernel_rfl) (by kernel_rfl) (by kernel_rfl) (fun _ _ _ h => h) (by rfl) ?_ (fun _ => hHeld) ?_
 rotate_left
 ·(intro w; (try intro hSw); (try dsimp only at hSw); go_simp; try with_reducible rfl)
 simp only [Act.put, List.setIfInBounds_toArray, List.set_cons_zero, List.set_cons_succ]
 refine takeW 2 101 (v := ?_) rfl rfl (by decide) (by kernel_rfl) (by kernel_rfl) (by kernel_rfl) (fun _ _ _ h => h) (by rfl) ?_ (fun _ => hHeld) ?_
 rotate_left
 ·(intro w; (try intro hSw); (try dsimp only at hSw); go_simp; try with_reducible rfl)
 simp only [Act.put, List.setIfInBounds_toArray, List.set_cons_zero, List.set_cons_succ]
 refine takeW 3 102 (v := ?_) rfl rfl (by decide) (by kernel_rfl) (by kernel_rfl) (by kernel_rfl) (fun _ _ _ h => h) (by rfl) ?_ (fun _ => hHeld) ?_
 rotate_left
 ·(intro w; (try intro hSw); (try dsimp only at hSw); go_simp; try with_reducible rfl)
 simp only [Act.put, List.setIfInBounds_toArray, List.set_cons_zero, List.set_cons_succ]
 refine takeW 4 103 (v := ?_) rfl rfl (by decide) (by kernel_rfl) (by kernel_rfl) (by kernel_rfl) (fun _ _ _ h => h) (by rfl) ?_ (fun _ => hHeld) ?_
 rotate_left
 ·(intro w; (try intro hSw); (try dsimp only at hSw); go_simp; try with_reducible rfl)
 simp only [Act.put, List.setIfInBounds_toArray, List.set_cons_zero, List.set_cons_succ]
 refine takeS 1 100 (v := ?_) rfl rfl (by decide) (by kernel_rfl) (by kernel_rfl) (by kernel_rfl) (by kernel_rfl) (by kernel_rfl) (fun _ _ _ h => h) (by rfl) ?_ hHeld ?_
 rotate_left
 ·(intro w; (try intro hSw); (try dsimp only at hSw); go_simp; try with_reducible rfl)
 simp only [Act.put, List.setIfInBounds_toArray, List.set_cons_zero, List.set_cons_succ]
 refine stepC 5 (by kernel_rfl) rfl (fun K hK => ?_)
 go_simp
 refine (HD.out _).mono ?_; rintro e8 w8 ⟨ad2, cap2, rfl, hib, hf2, hg8⟩; have ID8 := ID7.drew.gr hg8
 (try go_wp2_with fail)
 refine hK.out _ _ (by first | exact ⟨ID7.drew, ID7.drew.at_ 0 _ rfl, ID7.drew.at_ 1 _ rfl, ID7.drew.at_ 2 _ rfl⟩ | exact ⟨ID8, ID8.at_ 0 _ rfl, ID8.at_ 1 _ rfl, ID8.at_ 2 _ rfl⟩) (fun hHeldN => ?_)
 clear hHeld hK K
 have hHeld := hHeldN
 clear hHeldN
 have R8 := Lib.hid ((R7.out.alloc.drew).gr hg8)
 have X8 := Lib.hid ((X7.out.alloc.drew).gr hg8)
 have G8 : Hid (Gr w w8) := (G7.out.alloc.drew).trans hg8
 have HH8 := Lib.hid ((HH7.out.alloc.drew).gr hg8)
 have FHS : Hid (∀ a, ad2 = some a -> w.heap.size + 1 < a.block) := fun a e => by have := hf2 a e; simp at this; omega
 have HS8 := Lib.hid hib
 clear hib hf2
 have hx2 : ∀ a, ad2 = some a -> w.heap.size + 1 ≠ a.block := fun a e => by have := FHS.out a e; omega
 have hr2 : ∀ a, ad2 = some a -> w.heap.size ≠ a.block := fun a e => by have := FHS.out a e; omega
 clear hg8
 have ltw8 : w.heap.size + 1 < w8.heap.size := X8.out.lt
 have y8 := X8.out
 obtain ⟨x0, x1, x2, x3, x4, x5, x6, x7, x8, x9, x10, x11, x12, x13, xf0, xf1, xf2, xf3, xf4, xf5, xf6, xf7, xf8, xf9, xf10, xf11, xf12, xf13, xlt⟩ := y8.d14
 clear y8
 refine takeW 6 105 (v := ?_) rfl rfl (by decide) (by kernel_rfl) (by kernel_rfl) (by kernel_rfl) (fun _ _ _ h => h) (by rfl) ?_ (fun _ => hHeld) ?_
 rotate_left
 ·(intro w; (try intro hSw); (try dsimp only at hSw); go_simp; try with_reducible rfl)
 simp only [Act.put, List.setIfInBounds_toArray, List.set_cons_zero, List.set_cons_succ]
 refine takeW 7 106 (v := ?_) rfl rfl (by decide) (by kernel_rfl) (by kernel_rfl) (by kernel_rfl) (fun _ _ _ h => h) (by rfl) ?_ (fun _ => hHeld) ?_
 rotate_left
 ·(intro w; (try intro hSw); (try dsimp only at hSw); go_simp; try with_reducible rfl)
 simp only [Act.put, List.setIfInBounds_toArray, List.set_cons_zero, List.set_cons_succ]
 refine stepS (by kernel_rfl) rfl (by kernel_rfl) (fun K hK => ?_)
 go_simp
 refine hK.out _ _ ?_
 clear hHeld hK K
 refine doneL (by kernel_rfl) ?_ _
 have XF := ((((((((X8.out.set 1 (by simp) (.int .i64 (v1 : Int))).set 2 (by simp) (.int .i64 i1)).set 3 (by simp) (.int .i64 i2)).set 4 (by simp) (.slice ad1 iL.length cap1)).set 5 (by simp) (.int .i64 (v3 : Int))).set 6 (by simp) (.int .i64 (v4 : Int))).set 7 (by simp) (.string dn)).set 8 (by simp) (.slice ad2 dS.length cap2))
 have RF := ((((((((R8.out.far ⟨w.heap.size + 1, 1, none⟩ (.int .i64 (v1 : Int)) (by simp)).far ⟨w.heap.size + 1, 2, none⟩ (.int .i64 i1) (by simp)).far ⟨w.heap.size + 1, 3, none⟩ (.int .i64 i2) (by simp)).far ⟨w.heap.size + 1, 4, none⟩ (.slice ad1 iL.length cap1) (by simp)).far ⟨w.heap.size + 1, 5, none⟩ (.int .i64 (v3 : Int)) (by simp)).far ⟨w.heap.size + 1, 6, none⟩ (.int .i64 (v4 : Int)) (by simp)).far ⟨w.heap.size + 1, 7, none⟩ (.string dn) (by simp)).far ⟨w.heap.size + 1, 8, none⟩ (.slice ad2 dS.length cap2) (by simp))
 clear x0 xf0 x1 xf1 x2 xf2 x3 xf3 x4 xf4 x5 xf5 x6 xf6 x7 xf7 x8 xf8 x9 xf9 x10 xf10 x11 xf11 x12 xf12 x13 xf13 xlt
 obtain ⟨c0, c1, c2, c3, c4, c5, c6, c7, c8, c9, c10, c11, c12, c13, cf0, cf1, cf2, cf3, cf4, cf5, cf6, cf7, cf8, cf9, cf10, cf11, cf12, cf13, clt⟩ := RF.d14
 obtain ⟨x0, x1, x2, x3, x4, x5, x6, x7, x8, x9, x10, x11, x12, x13, xf0, xf1, xf2, xf3, xf4, xf5, xf6, xf7, xf8, xf9, xf10, xf11, xf12, xf13, xlt⟩ := XF.d14
 clear XF
 cases d5 with
 | false =>
  go_wp2
  have Q := Cs.fill14 RF rfl (.int .i64 ((1 : Nat) : Int)) (.int .i64 (v1 : Int)) (.int .i64 i1) (.int .i64 i2) (.slice ad1 iL.length cap1) (.int .i64 (v3 : Int)) (.int .i64 (v4 : Int)) (.string dn) (.slice ad2 dS.length cap2) (.string ⟨#[]⟩) (.int .i64 0) (.string ⟨#[]⟩) (.slice none 0 0) (.string ⟨#[]⟩)
  obtain ⟨k0', k1', k2', k3', k4', k5', k6', k7', k8', k9', k10', k11', k12', k13', klt⟩ := Q.c14
  clear Q
  exact bodyPost_ret (v := .tuple #[.agg #[.int .i64 ((1 : Nat) : Int), .int .i64 (v1 : Int), .int .i64 i1, .int .i64 i2, .slice ad1 iL.length cap1, .int .i64 (v3 : Int), .int .i64 (v4 : Int), .string dn, .slice ad2 dS.length cap2, .string ⟨#[]⟩, .int .i64 0, .string ⟨#[]⟩, .slice none 0 0, .string ⟨#[]⟩], .bool false]) (by simp [results, Tryz.results50, go_sem, *]) rfl ⟨ad1, cap1, ad2, cap2, none, 0, rfl, (((((((((HH8.out.set ⟨w.heap.size + 1, 1, none⟩ (.int .i64 (v1 : Int)) hx1).set ⟨w.heap.size + 1, 2, none⟩ (.int .i64 i1) hx1).set ⟨w.heap.size + 1, 3, none⟩ (.int .i64 i2) hx1).set ⟨w.heap.size + 1, 4, none⟩ (.slice ad1 iL.length cap1) hx1).set ⟨w.heap.size + 1, 5, none⟩ (.int .i64 (v3 : Int)) hx1).set ⟨w.heap.size + 1, 6, none⟩ (.int .i64 (v4 : Int)) hx1).set ⟨w.heap.size + 1, 7, none⟩ (.string dn) hx1).set ⟨w.heap.size + 1, 8, none⟩ (.slice ad2 dS.length cap2) hx1).far14 w.heap.size hr1 _ _ _ _ _ _ _ _ _ _ _ _ _ _), (((((((((HS8.out.far ⟨w.heap.size + 1, 1, none⟩ (.int .i64 (v1 : Int)) hx2).far ⟨w.heap.size + 1, 2, none⟩ (.int .i64 i1) hx2).far ⟨w.heap.size + 1, 3, none⟩ (.int .i64 i2) hx2).far ⟨w.heap.size + 1, 4, none⟩ (.slice ad1 iL.length cap1) hx2).far ⟨w.heap.size + 1, 5, none⟩ (.int .i64 (v3 : Int)) hx2).far ⟨w.heap.size + 1, 6, none⟩ (.int .i64 (v4 : Int)) hx2).far ⟨w.heap.size + 1, 7, none⟩ (.string dn) hx2).far ⟨w.heap.size + 1, 8, none⟩ (.slice ad2 dS.length cap2) hx2).far14 w.heap.size hr2 _ _ _ _ _ _ _ _ _ _ _ _ _ _), RowAt.nil, (fun a e => by have := FHH.out a e; omega), (fun a e => by have := FHS.out a e; omega), (fun a e => (by cases e)), ((((((((G8.out.set ⟨w.heap.size + 1, 1, none⟩ (by simp) (.int .i64 (v1 : Int))).set ⟨w.heap.size + 1, 2, none⟩ (by simp) (.int .i64 i1)).set ⟨w.heap.size + 1, 3, none⟩ (by simp) (.int .i64 i2)).set ⟨w.heap.size + 1, 4, none⟩ (by simp) (.slice ad1 iL.length cap1)).set ⟨w.heap.size + 1, 5, none⟩ (by simp) (.int .i64 (v3 : Int))).set ⟨w.heap.size + 1, 6, none⟩ (by simp) (.int .i64 (v4 : Int))).set ⟨w.heap.size + 1, 7, none⟩ (by simp) (.string dn)).set ⟨w.heap.size + 1, 8, none⟩ (by simp) (.slice ad2 dS.length cap2)).set14 w.heap.size (Nat.le_refl _) _ _ _ _ _ _ _ _ _ _ _ _ _ _⟩
 | true =>
  go_wp2
  have Q := Cs.fill14 RF rfl (.int .i64 ((1 : Nat) : Int)) (.int .i64 (v1 : Int)) (.int .i64 i1) (.int .i64 i2) (.slice ad1 iL.length cap1) (.int .i64 (v3 : Int)) (.int .i64 (v4 : Int)) (.string dn) (.slice ad2 dS.length cap2) (.string ⟨#[]⟩) (.int .i64 0) (.string ⟨#[]⟩) (.slice none 0 0) (.string ⟨#[]⟩)
  obtain ⟨k0', k1', k2', k3', k4', k5', k6', k7', k8', k9', k10', k11', k12', k13', klt⟩ := Q.c14
  clear Q
  exact bodyPost_ret (v := .tuple #[.agg #[.int .i64 ((1 : Nat) : Int), .int .i64 (v1 : Int), .int .i64 i1, .int .i64 i2, .slice ad1 iL.length cap1, .int .i64 (v3 : Int), .int .i64 (v4 : Int), .string dn, .slice ad2 dS.length cap2, .string ⟨#[]⟩, .int .i64 0, .string ⟨#[]⟩, .slice none 0 0, .string ⟨#[]⟩], .bool bp]) (by simp [results, Tryz.results50, go_sem, *]) rfl ⟨ad1, cap1, ad2, cap2, none, 0, rfl, (((((((((HH8.out.set ⟨w.heap.size + 1, 1, none⟩ (.int .i64 (v1 : Int)) hx1).set ⟨w.heap.size + 1, 2, none⟩ (.int .i64 i1) hx1).set ⟨w.heap.size + 1, 3, none⟩ (.int .i64 i2) hx1).set ⟨w.heap.size + 1, 4, none⟩ (.slice ad1 iL.length cap1) hx1).set ⟨w.heap.size + 1, 5, none⟩ (.int .i64 (v3 : Int)) hx1).set ⟨w.heap.size + 1, 6, none⟩ (.int .i64 (v4 : Int)) hx1).set ⟨w.heap.size + 1, 7, none⟩ (.string dn) hx1).set ⟨w.heap.size + 1, 8, none⟩ (.slice ad2 dS.length cap2) hx1).far14 w.heap.size hr1 _ _ _ _ _ _ _ _ _ _ _ _ _ _), (((((((((HS8.out.far ⟨w.heap.size + 1, 1, none⟩ (.int .i64 (v1 : Int)) hx2).far ⟨w.heap.size + 1, 2, none⟩ (.int .i64 i1) hx2).far ⟨w.heap.size + 1, 3, none⟩ (.int .i64 i2) hx2).far ⟨w.heap.size + 1, 4, none⟩ (.slice ad1 iL.length cap1) hx2).far ⟨w.heap.size + 1, 5, none⟩ (.int .i64 (v3 : Int)) hx2).far ⟨w.heap.size + 1, 6, none⟩ (.int .i64 (v4 : Int)) hx2).far ⟨w.heap.size + 1, 7, none⟩ (.string dn) hx2).far ⟨w.heap.size + 1, 8, none⟩ (.slice ad2 dS.length cap2) hx2).far14 w.heap.size hr2 _ _ _ _ _ _ _ _ _ _ _ _ _ _), RowAt.nil, (fun a e => by have := FHH.out a e; omega), (fun a e => by have := FHS.out a e; omega), (fun a e => (by cases e)), ((((((((G8.out.set ⟨w.heap.size + 1, 1, none⟩ (by simp) (.int .i64 (v1 : Int))).set ⟨w.heap.size + 1, 2, none⟩ (by simp) (.int .i64 i1)).set ⟨w.heap.size + 1, 3, none⟩ (by simp) (.int .i64 i2)).set ⟨w.heap.size + 1, 4, none⟩ (by simp) (.slice ad1 iL.length cap1)).set ⟨w.heap.size + 1, 5, none⟩ (by simp) (.int .i64 (v3 : Int))).set ⟨w.heap.size + 1, 6, none⟩ (by simp) (.int .i64 (v4 : Int))).set ⟨w.heap.size + 1, 7, none⟩ (by simp) (.string dn)).set ⟨w.heap.size + 1, 8, none⟩ (by simp) (.slice ad2 dS.length cap2)).set14 w.heap.size (Nat.le_refl _) _ _ _ _ _ _ _ _ _ _ _ _ _ _⟩

end Go.Proofs.YthaadiclopoamaaGreatDoor
