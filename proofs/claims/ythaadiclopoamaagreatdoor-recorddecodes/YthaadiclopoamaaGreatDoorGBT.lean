/- Parts of these proofs, laid together. -/
import Derived.Test.YthaadiclopoamaaGreatDoorGBS
import Derived.Test.YthaadiclopoamaaGreatDoorGBK
import Derived.Test.YthaadiclopoamaaGreatDoorGZ
/- the document's record: Decode. -/
set_option maxRecDepth 100000
set_option maxHeartbeats 8000000
namespace Go.Proofs.YthaadiclopoamaaGreatDoor
open Go.RowKit
open Df (Stp)

theorem qread_any (s : ByteArray) (w : World) (hs : s.size <= 140737488355328) :
  Calls Tryz.prog 50 #[.string s] w fun e w' => QrdR (Rc.rfR s.data.toList) (Rc.rfB s.data.toList) w e w' := by
 cases hb : Rc.tkB s.data.toList 0 true with
 | false =>
  have hk : Rc.fk s.data.toList = 0 := by unfold Rc.fk Rc.tkV; rw [hb]; rfl
  have e1 : Rc.rfR s.data.toList = ⟨0, Rc.zM, ⟨#[]⟩, 0, ⟨#[]⟩, [], ⟨#[]⟩⟩ := by
   unfold Rc.rfR; rw [hk, if_neg (by decide), if_neg (by simp), if_neg (by simp), if_neg (by simp)]; rfl
  have e2 : Rc.rfB s.data.toList = false := by unfold Rc.rfB; rw [hb]; rfl
  rw [e1, e2]
  exact qreadA s w hs hb
 | true =>
  have hB : Rc.rfB s.data.toList = if Rc.fk s.data.toList = 4 then true else if Rc.fk s.data.toList = 1 then Rc.fo5 s.data.toList && decide ((Rc.fx5 s.data.toList).2.2 = 0) && parB (Rc.fx2 s.data.toList).1 else if Rc.fk s.data.toList = 2 then decide ((Rc.fx1 s.data.toList).2.2 = 0) && decide ((Pk.takeNum s.data.toList (Rc.fx1 s.data.toList).2.1).2.2 = 0) else decide ((Rc.fx1 s.data.toList).2.2 = 0) := by
   unfold Rc.rfB; rw [hb, if_neg (by decide)]
  by_cases h1 : Rc.fk s.data.toList = 1
  ·rw [h1, if_neg (by decide), if_pos rfl] at hB
   cases h5 : Rc.fo5 s.data.toList with
   | false =>
    have e1 : Rc.rfR s.data.toList = ⟨1, Rc.zM, ⟨#[]⟩, 0, ⟨#[]⟩, [], ⟨#[]⟩⟩ := by unfold Rc.rfR; rw [if_pos h1, h5]; rfl
    rw [h5] at hB
    rw [e1, hB]
    exact qread1n s w hs hb h1 h5
   | true =>
    have e1 : Rc.rfR s.data.toList = ⟨1, Rc.rfM s.data.toList, ⟨#[]⟩, 0, ⟨#[]⟩, [], ⟨#[]⟩⟩ := by unfold Rc.rfR; rw [if_pos h1, h5]; rfl
    rw [h5, Bool.true_and] at hB
    rw [e1, hB]
    exact qread1y s w hs hb h1 h5
  by_cases h4 : Rc.fk s.data.toList = 4
  ·have e1 : Rc.rfR s.data.toList = ⟨4, Rc.zM, ⟨#[]⟩, 0, ⟨#[]⟩, [], ⟨#[]⟩⟩ := by
    unfold Rc.rfR; rw [h4, if_neg (by decide), if_neg (by simp), if_neg (by simp), if_neg (by simp)]; rfl
   rw [if_pos h4] at hB
   rw [e1, hB]
   exact qread4 s w hs hb h4
  rw [if_neg h4, if_neg h1] at hB
  by_cases he : (Rc.fx1 s.data.toList).2.2 = 0
  ·by_cases h2 : Rc.fk s.data.toList = 2
   ·have e1 : Rc.rfR s.data.toList = ⟨2, Rc.zM, ⟨(Rc.fx1 s.data.toList).1.toArray⟩, Pk.unsg (Pk.takeNum s.data.toList (Rc.fx1 s.data.toList).2.1).1, ⟨#[]⟩, [], ⟨#[]⟩⟩ := by unfold Rc.rfR; rw [if_neg h1, if_pos ⟨h2, he⟩]
    rw [if_pos h2, decide_eq_true he, Bool.true_and] at hB
    rw [e1, hB]
    exact qread2 s w hs hb h2 he
   rw [if_neg h2, decide_eq_true he] at hB
   by_cases h3 : Rc.fk s.data.toList = 3
   ·have e1 : Rc.rfR s.data.toList = ⟨3, Rc.zM, ⟨#[]⟩, 0, tN (Rc.fx1 s.data.toList).1, tL (Rc.fx1 s.data.toList).1, ⟨#[]⟩⟩ := by unfold Rc.rfR; rw [if_neg h1, if_neg (fun q => h2 q.1), if_pos ⟨h3, he⟩]
    rw [e1, hB]
    exact qread3 s w hs hb h3 he
   by_cases h5 : Rc.fk s.data.toList = 5
   ·have e1 : Rc.rfR s.data.toList = ⟨5, Rc.zM, ⟨#[]⟩, 0, ⟨#[]⟩, [], ⟨(Rc.fx1 s.data.toList).1.toArray⟩⟩ := by unfold Rc.rfR; rw [if_neg h1, if_neg (fun q => h2 q.1), if_neg (fun q => h3 q.1), if_pos ⟨h5, he⟩]
    rw [e1, hB]
    exact qread5 s w hs hb h5 he
   have e1 : Rc.rfR s.data.toList = ⟨(Rc.fk s.data.toList : Int), Rc.zM, ⟨#[]⟩, 0, ⟨#[]⟩, [], ⟨#[]⟩⟩ := by unfold Rc.rfR; rw [if_neg h1, if_neg (fun q => h2 q.1), if_neg (fun q => h3 q.1), if_neg (fun q => h5 q.1)]
   rw [e1, hB]
   exact qreadk s w hs hb (Rc.fk s.data.toList) (by simpa using (show ¬ (Rc.fk s.data.toList : Int) = 1 by omega)) (by simpa using (show ¬ (Rc.fk s.data.toList : Int) = 2 by omega)) (by simpa using (show ¬ (Rc.fk s.data.toList : Int) = 3 by omega)) (by simpa using (show ¬ (Rc.fk s.data.toList : Int) = 4 by omega)) (by simpa using (show ¬ (Rc.fk s.data.toList : Int) = 5 by omega)) rfl he
  ·have e1 : Rc.rfR s.data.toList = ⟨(Rc.fk s.data.toList : Int), Rc.zM, ⟨#[]⟩, 0, ⟨#[]⟩, [], ⟨#[]⟩⟩ := by unfold Rc.rfR; rw [if_neg h1, if_neg (fun q => he q.2), if_neg (fun q => he q.2), if_neg (fun q => he q.2)]
   rw [decide_eq_false he, Bool.false_and, ite_self] at hB
   rw [e1, hB]
   exact qreadFk s w hs hb (Rc.fk s.data.toList) (by simpa using (show ¬ (Rc.fk s.data.toList : Int) = 1 by omega)) (by simpa using (show ¬ (Rc.fk s.data.toList : Int) = 4 by omega)) rfl he

theorem rf_sm (l : List UInt8) : RcSm l.length (Rc.rfR l) := by
 unfold Rc.rfR
 split
 ·split
  ·obtain ⟨h1, h2, h3⟩ := tl_in (Rc.fx5 l).1
   have e : Rc.rfM l = ⟨(Rc.tkV l (Rc.fp l) true : Int), Rc.ivR (Rc.fx2 l).1, Rc.ivN (Rc.fx2 l).1, Rc.ivL (Rc.fx2 l).1, (Rc.tkV l (Rc.fx2 l).2.1 (Rc.fo3 l) : Int), (Rc.tkV l (Rc.fp3 l) (Rc.fo4 l) : Int), tN (Rc.fx5 l).1, tL (Rc.fx5 l).1⟩ := rfl
   rw [e]
   generalize (Rc.fx5 l).1 = t5 at *
   generalize tL t5 = S at *
   generalize tN t5 = d at *
   exact ⟨iv_in _, h1, h2, h3, by simp, z16, by simp, Nat.zero_le _, Nat.zero_le _⟩
  ·exact sm_zero _ _
 split
 ·exact ⟨by simp [Rc.zM], by simp [Rc.zM], z16, by simp [Rc.zM], by simp, z16, by simp, (show (Rc.fx1 l).1.toArray.size <= l.length by rw [List.size_toArray]; exact text_lenq l _), Nat.zero_le _⟩
 split
 ·obtain ⟨h1, h2, h3⟩ := tl_in (Rc.fx1 l).1
  exact ⟨by simp [Rc.zM], by simp [Rc.zM], z16, by simp [Rc.zM], h1, h2, h3, Nat.zero_le _, Nat.zero_le _⟩
 split
 ·exact ⟨by simp [Rc.zM], by simp [Rc.zM], z16, by simp [Rc.zM], by simp, z16, by simp, Nat.zero_le _, (show (Rc.fx1 l).1.toArray.size <= l.length by rw [List.size_toArray]; exact text_lenq l _)⟩
 exact sm_zero _ _

theorem qdec_any (s : ByteArray) (w : World) (hs : s.size <= 140737488355328) :
  Calls Tryz.prog 19 #[.string s] w fun e w' => DecR (Rc.dcR s.data.toList) (Rc.dcE s.data.toList) w e w' := by
 have hsz : s.data.toList.length = s.size := by simp
 have HR : Hid (∀ w' : World, Calls Tryz.prog 50 #[.string s] w' fun e w2 => QrdR (Rc.rfR s.data.toList) (Rc.rfB s.data.toList) w' e w2) := fun w' => qread_any s w' hs
 have hsm := rf_sm s.data.toList
 obtain ⟨hb0, hrf⟩ := Rc.rf_dec (l := s.data.toList)
 have HB := Lib.hid hb0
 clear hb0
 have HX : Hid (Rc.dcR s.data.toList = if Rc.dcB s.data.toList = true then Rc.rfR s.data.toList else Rc.zR) := by
  show _ = _
  unfold Rc.dcR
  by_cases q : Rc.dcB s.data.toList = true
  ·rw [if_pos q, if_pos q, hrf q]
  ·rw [if_neg q, if_neg q]
 have HE : Hid (Rc.dcE s.data.toList = if Rc.dcB s.data.toList = true then 0 else 140) := rfl
 clear hrf
 unfold DecR
 unfold QrdR at HR
 generalize Rc.dcR s.data.toList = RX at *
 generalize Rc.dcE s.data.toList = RE at *
 generalize Rc.dcB s.data.toList = RB at *
 generalize Rc.rfR s.data.toList = X at *
 generalize Rc.rfB s.data.toList = bO at *
 obtain ⟨k, ⟨mk, r, n, mL, s2, y, md, T⟩, a, v, d, S, t⟩ := X
 simp only at HR
 rw [hsz] at hsm
 have HN : Hid (∀ (w' : World) (a1 : Option Addr) (c1 : Nat) (a2 : Option Addr) (c2 : Nat) (a3 : Option Addr) (c3 : Nat), RcIn w' ⟨k, ⟨mk, r, n, mL, s2, y, md, T⟩, a, v, d, S, t⟩ a1 c1 a2 c2 a3 c3 -> Calls Tryz.prog 17 #[.agg #[.int .i64 k, .int .i64 mk, .int .i64 r, .int .i64 n, .slice a1 mL.length c1, .int .i64 s2, .int .i64 y, .string md, .slice a2 T.length c2, .string a, .int .i64 v, .string d, .slice a3 S.length c3, .string t]] w' fun e w2 => e = .returned (.tuple #[.string ⟨(if Rc.rcB ⟨k, ⟨mk, r, n, mL, s2, y, md, T⟩, a, v, d, S, t⟩ = true then Rc.bd ⟨k, ⟨mk, r, n, mL, s2, y, md, T⟩, a, v, d, S, t⟩ else []).toArray⟩, .int .i64 (if Rc.rcB ⟨k, ⟨mk, r, n, mL, s2, y, md, T⟩, a, v, d, S, t⟩ = true then 0 else 140)]) /\ Gr w' w2) := fun w' a1 c1 a2 c2 a3 c3 h => qenc_any k mk r n mL s2 y md T a v d S t a1 c1 a2 c2 a3 c3 w' h
 have HI : Hid (∀ (w' : World) (a1 : Option Addr) (c1 : Nat) (a2 : Option Addr) (c2 : Nat) (a3 : Option Addr) (c3 : Nat), HopsAt w' a1 mL -> StpsAt w' a2 T -> StpsAt w' a3 S -> RcIn w' ⟨k, ⟨mk, r, n, mL, s2, y, md, T⟩, a, v, d, S, t⟩ a1 c1 a2 c2 a3 c3) := fun w' a1 c1 a2 c2 a3 c3 h1 h2 h3 => hsm.rcIn hs h1 h2 h3
 generalize hX : (⟨k, ⟨mk, r, n, mL, s2, y, md, T⟩, a, v, d, S, t⟩ : Rc) = X at *
 have HXX := Lib.hid hX
 clear hsm hs hsz hX
 cases bO with
 | false =>
  obtain rfl : RB = false := HB.out
  rw [if_neg (by decide)] at HX HE
  clear HB
  go_enter Tryz.func19, Tryz.ntmps19
  go_wp2_with fail
  refine (HR.out _).mono ?_
  rintro e4 w1 ⟨a1, c1, a2, c2, a3, c3, rfl, h1, h2, h3, f1, f2, f3, hg1⟩
  have R1 := Lib.hid ((Cs.new w _ _ _ rfl).gr hg1)
  have G1 : Hid (Gr w w1) := (Gr.refl w).alloc.trans hg1
  have I1 : Hid (RcIn w1 X a1 c1 a2 c2 a3 c3) := HI.out w1 a1 c1 a2 c2 a3 c3 h1 h2 h3
  have F1 : Hid (∀ a, a1 = some a -> w.heap.size < a.block) := fun a e => by have := f1 a e; simp at this; omega
  have F2 : Hid (∀ a, a2 = some a -> w.heap.size < a.block) := fun a e => by have := f2 a e; simp at this; omega
  have F3 : Hid (∀ a, a3 = some a -> w.heap.size < a.block) := fun a e => by have := f3 a e; simp at this; omega
  clear h1 h2 h3 f1 f2 f3 hg1
  have lt1 := R1.out.lt
  have r1 := R1.out
  obtain ⟨z0, z1, z2, z3, z4, z5, z6, z7, z8, z9, z10, z11, z12, z13, zf0, zf1, zf2, zf3, zf4, zf5, zf6, zf7, zf8, zf9, zf10, zf11, zf12, zf13, zlt⟩ := r1.d14
  clear r1
  go_wp2
  have Q := Cs.fill14 R1.out rfl (.int .i64 0) (.int .i64 0) (.int .i64 0) (.int .i64 0) (.slice none 0 0) (.int .i64 0) (.int .i64 0) (.string ⟨#[]⟩) (.slice none 0 0) (.string ⟨#[]⟩) (.int .i64 0) (.string ⟨#[]⟩) (.slice none 0 0) (.string ⟨#[]⟩)
  obtain ⟨k0', k1', k2', k3', k4', k5', k6', k7', k8', k9', k10', k11', k12', k13', klt⟩ := Q.c14
  clear Q
  exact bodyPost_ret (v := .tuple #[.agg #[.int .i64 0, .int .i64 0, .int .i64 0, .int .i64 0, .slice none 0 0, .int .i64 0, .int .i64 0, .string ⟨#[]⟩, .slice none 0 0, .string ⟨#[]⟩, .int .i64 0, .string ⟨#[]⟩, .slice none 0 0, .string ⟨#[]⟩], .int .i64 140]) (by simp [results, Tryz.results19, go_sem, *]) rfl (by
   rw [HX.out, HE.out]
   exact ⟨none, 0, none, 0, none, 0, rfl, zR_in _, (G1.out.set14 w.heap.size (Nat.le_refl _) _ _ _ _ _ _ _ _ _ _ _ _ _ _).alloc⟩)
 | true =>
  rw [Bool.true_and] at HB
  cases hc : Rc.rcB X with
  | false =>
   rw [hc] at HN HB
   clear hc
   rw [if_neg (by decide), if_neg (by decide)] at HN
   obtain rfl : RB = false := HB.out
   rw [if_neg (by decide)] at HX HE
   clear HB
   go_enter Tryz.func19, Tryz.ntmps19
   go_wp2_with fail
   refine (HR.out _).mono ?_
   rintro e4 w1 ⟨a1, c1, a2, c2, a3, c3, rfl, h1, h2, h3, f1, f2, f3, hg1⟩
   have R1 := Lib.hid ((Cs.new w _ _ _ rfl).gr hg1)
   have G1 : Hid (Gr w w1) := (Gr.refl w).alloc.trans hg1
   have I1 : Hid (RcIn w1 X a1 c1 a2 c2 a3 c3) := HI.out w1 a1 c1 a2 c2 a3 c3 h1 h2 h3
   have F1 : Hid (∀ a, a1 = some a -> w.heap.size < a.block) := fun a e => by have := f1 a e; simp at this; omega
   have F2 : Hid (∀ a, a2 = some a -> w.heap.size < a.block) := fun a e => by have := f2 a e; simp at this; omega
   have F3 : Hid (∀ a, a3 = some a -> w.heap.size < a.block) := fun a e => by have := f3 a e; simp at this; omega
   clear h1 h2 h3 f1 f2 f3 hg1
   have lt1 := R1.out.lt
   go_wp2_with fail
   refine (HN.out _ _ _ _ _ _ _ ?_).mono ?_
   ·exact I1.out.gr (Gr.refl _).alloc
   rintro e5 w2 ⟨rfl, hg2⟩
   have G2 : Hid (Gr w w2) := G1.out.alloc.trans hg2
   have I2 : Hid (RcIn w2 X a1 c1 a2 c2 a3 c3) := I1.out.gr ((Gr.refl _).alloc.trans hg2)
   have R2 := Lib.hid (R1.out.alloc.gr hg2)
   have X2 := Lib.hid ((Cs.new w1 _ _ _ rfl).gr hg2)
   clear hg2
   have r2 := R2.out
   obtain ⟨z0, z1, z2, z3, z4, z5, z6, z7, z8, z9, z10, z11, z12, z13, zf0, zf1, zf2, zf3, zf4, zf5, zf6, zf7, zf8, zf9, zf10, zf11, zf12, zf13, zlt⟩ := r2.d14
   have x2 := X2.out
   obtain ⟨x0', x1', x2', x3', x4', x5', x6', x7', x8', x9', x10', x11', x12', x13', xlt⟩ := x2.c14
   clear r2 x2
   have hnn : w1.heap.size ≠ w.heap.size := by omega
   go_wp2
   have Q := Cs.fill14 R2.out rfl (.int .i64 0) (.int .i64 0) (.int .i64 0) (.int .i64 0) (.slice none 0 0) (.int .i64 0) (.int .i64 0) (.string ⟨#[]⟩) (.slice none 0 0) (.string ⟨#[]⟩) (.int .i64 0) (.string ⟨#[]⟩) (.slice none 0 0) (.string ⟨#[]⟩)
   obtain ⟨k0', k1', k2', k3', k4', k5', k6', k7', k8', k9', k10', k11', k12', k13', klt⟩ := Q.c14
   clear Q
   exact bodyPost_ret (v := .tuple #[.agg #[.int .i64 0, .int .i64 0, .int .i64 0, .int .i64 0, .slice none 0 0, .int .i64 0, .int .i64 0, .string ⟨#[]⟩, .slice none 0 0, .string ⟨#[]⟩, .int .i64 0, .string ⟨#[]⟩, .slice none 0 0, .string ⟨#[]⟩], .int .i64 140]) (by simp [results, Tryz.results19, go_sem, *]) rfl (by
    rw [HX.out, HE.out]
    exact ⟨none, 0, none, 0, none, 0, rfl, zR_in _, G2.out.set14 w.heap.size (Nat.le_refl _) _ _ _ _ _ _ _ _ _ _ _ _ _ _⟩)
  | true =>
   rw [hc, Bool.true_and] at HB
   rw [hc] at HN
   clear hc
   by_cases hbd : Rc.bd X = s.data.toList
   ·rw [if_pos rfl, if_pos rfl] at HN
    obtain rfl : RB = true := by rw [HB.out, decide_eq_true hbd]
    have hq : ((⟨(Rc.bd X).toArray⟩ : ByteArray).toList == s.toList) = true := by rw [ByteArray.toList_eq, ByteArray.toList_eq]; simpa using hbd
    generalize (⟨(Rc.bd X).toArray⟩ : ByteArray) = bt at *
    rw [if_pos rfl] at HX HE
    clear HB hbd
    go_enter Tryz.func19, Tryz.ntmps19
    go_wp2_with fail
    refine (HR.out _).mono ?_
    rintro e4 w1 ⟨a1, c1, a2, c2, a3, c3, rfl, h1, h2, h3, f1, f2, f3, hg1⟩
    have R1 := Lib.hid ((Cs.new w _ _ _ rfl).gr hg1)
    have G1 : Hid (Gr w w1) := (Gr.refl w).alloc.trans hg1
    have I1 : Hid (RcIn w1 X a1 c1 a2 c2 a3 c3) := HI.out w1 a1 c1 a2 c2 a3 c3 h1 h2 h3
    have F1 : Hid (∀ a, a1 = some a -> w.heap.size < a.block) := fun a e => by have := f1 a e; simp at this; omega
    have F2 : Hid (∀ a, a2 = some a -> w.heap.size < a.block) := fun a e => by have := f2 a e; simp at this; omega
    have F3 : Hid (∀ a, a3 = some a -> w.heap.size < a.block) := fun a e => by have := f3 a e; simp at this; omega
    clear h1 h2 h3 f1 f2 f3 hg1
    have lt1 := R1.out.lt
    go_wp2_with fail
    refine (HN.out _ _ _ _ _ _ _ ?_).mono ?_
    ·exact I1.out.gr (Gr.refl _).alloc
    rintro e5 w2 ⟨rfl, hg2⟩
    have G2 : Hid (Gr w w2) := G1.out.alloc.trans hg2
    have I2 : Hid (RcIn w2 X a1 c1 a2 c2 a3 c3) := I1.out.gr ((Gr.refl _).alloc.trans hg2)
    have R2 := Lib.hid (R1.out.alloc.gr hg2)
    have X2 := Lib.hid ((Cs.new w1 _ _ _ rfl).gr hg2)
    clear hg2
    have r2 := R2.out
    obtain ⟨z0, z1, z2, z3, z4, z5, z6, z7, z8, z9, z10, z11, z12, z13, zf0, zf1, zf2, zf3, zf4, zf5, zf6, zf7, zf8, zf9, zf10, zf11, zf12, zf13, zlt⟩ := r2.d14
    have x2 := X2.out
    obtain ⟨x0', x1', x2', x3', x4', x5', x6', x7', x8', x9', x10', x11', x12', x13', xlt⟩ := x2.c14
    clear r2 x2
    have hnn : w1.heap.size ≠ w.heap.size := by omega
    go_wp2
    have Q := Cs.fill14 R2.out rfl (.int .i64 k) (.int .i64 mk) (.int .i64 r) (.int .i64 n) (.slice a1 mL.length c1) (.int .i64 s2) (.int .i64 y) (.string md) (.slice a2 T.length c2) (.string a) (.int .i64 v) (.string d) (.slice a3 S.length c3) (.string t)
    obtain ⟨k0', k1', k2', k3', k4', k5', k6', k7', k8', k9', k10', k11', k12', k13', klt⟩ := Q.c14
    clear Q
    have hX := HXX.out
    subst hX
    exact bodyPost_ret (v := .tuple #[.agg #[.int .i64 k, .int .i64 mk, .int .i64 r, .int .i64 n, .slice a1 mL.length c1, .int .i64 s2, .int .i64 y, .string md, .slice a2 T.length c2, .string a, .int .i64 v, .string d, .slice a3 S.length c3, .string t], .int .i64 0]) (by simp [results, Tryz.results19, go_sem, *]) rfl (by
     rw [HX.out, HE.out]
     exact ⟨a1, c1, a2, c2, a3, c3, rfl, I2.out.far14 w.heap.size (fun a e => by have := F1.out a e; omega) (fun a e => by have := F2.out a e; omega) (fun a e => by have := F3.out a e; omega) _ _ _ _ _ _ _ _ _ _ _ _ _ _, G2.out.set14 w.heap.size (Nat.le_refl _) _ _ _ _ _ _ _ _ _ _ _ _ _ _⟩)
   ·rw [if_pos rfl, if_pos rfl] at HN
    obtain rfl : RB = false := by rw [HB.out, decide_eq_false hbd]
    have hq : ((⟨(Rc.bd X).toArray⟩ : ByteArray).toList == s.toList) = false := by rw [ByteArray.toList_eq, ByteArray.toList_eq]; simpa using hbd
    generalize (⟨(Rc.bd X).toArray⟩ : ByteArray) = bt at *
    rw [if_neg (by decide)] at HX HE
    clear HB hbd
    go_enter Tryz.func19, Tryz.ntmps19
    go_wp2_with fail
    refine (HR.out _).mono ?_
    rintro e4 w1 ⟨a1, c1, a2, c2, a3, c3, rfl, h1, h2, h3, f1, f2, f3, hg1⟩
    have R1 := Lib.hid ((Cs.new w _ _ _ rfl).gr hg1)
    have G1 : Hid (Gr w w1) := (Gr.refl w).alloc.trans hg1
    have I1 : Hid (RcIn w1 X a1 c1 a2 c2 a3 c3) := HI.out w1 a1 c1 a2 c2 a3 c3 h1 h2 h3
    have F1 : Hid (∀ a, a1 = some a -> w.heap.size < a.block) := fun a e => by have := f1 a e; simp at this; omega
    have F2 : Hid (∀ a, a2 = some a -> w.heap.size < a.block) := fun a e => by have := f2 a e; simp at this; omega
    have F3 : Hid (∀ a, a3 = some a -> w.heap.size < a.block) := fun a e => by have := f3 a e; simp at this; omega
    clear h1 h2 h3 f1 f2 f3 hg1
    have lt1 := R1.out.lt
    go_wp2_with fail
    refine (HN.out _ _ _ _ _ _ _ ?_).mono ?_
    ·exact I1.out.gr (Gr.refl _).alloc
    rintro e5 w2 ⟨rfl, hg2⟩
    have G2 : Hid (Gr w w2) := G1.out.alloc.trans hg2
    have I2 : Hid (RcIn w2 X a1 c1 a2 c2 a3 c3) := I1.out.gr ((Gr.refl _).alloc.trans hg2)
    have R2 := Lib.hid (R1.out.alloc.gr hg2)
    have X2 := Lib.hid ((Cs.new w1 _ _ _ rfl).gr hg2)
    clear hg2
    have r2 := R2.out
    obtain ⟨z0, z1, z2, z3, z4, z5, z6, z7, z8, z9, z10, z11, z12, z13, zf0, zf1, zf2, zf3, zf4, zf5, zf6, zf7, zf8, zf9, zf10, zf11, zf12, zf13, zlt⟩ := r2.d14
    have x2 := X2.out
    obtain ⟨x0', x1', x2', x3', x4', x5', x6', x7', x8', x9', x10', x11', x12', x13', xlt⟩ := x2.c14
    clear r2 x2
    have hnn : w1.heap.size ≠ w.heap.size := by omega
    go_wp2
    have Q := Cs.fill14 R2.out rfl (.int .i64 0) (.int .i64 0) (.int .i64 0) (.int .i64 0) (.slice none 0 0) (.int .i64 0) (.int .i64 0) (.string ⟨#[]⟩) (.slice none 0 0) (.string ⟨#[]⟩) (.int .i64 0) (.string ⟨#[]⟩) (.slice none 0 0) (.string ⟨#[]⟩)
    obtain ⟨k0', k1', k2', k3', k4', k5', k6', k7', k8', k9', k10', k11', k12', k13', klt⟩ := Q.c14
    clear Q
    exact bodyPost_ret (v := .tuple #[.agg #[.int .i64 0, .int .i64 0, .int .i64 0, .int .i64 0, .slice none 0 0, .int .i64 0, .int .i64 0, .string ⟨#[]⟩, .slice none 0 0, .string ⟨#[]⟩, .int .i64 0, .string ⟨#[]⟩, .slice none 0 0, .string ⟨#[]⟩], .int .i64 140]) (by simp [results, Tryz.results19, go_sem, *]) rfl (by
     rw [HX.out, HE.out]
     exact ⟨none, 0, none, 0, none, 0, rfl, zR_in _, G2.out.set14 w.heap.size (Nat.le_refl _) _ _ _ _ _ _ _ _ _ _ _ _ _ _⟩)
end Go.Proofs.YthaadiclopoamaaGreatDoor
