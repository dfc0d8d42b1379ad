/- Parts of these proofs, laid together. -/
import Derived.Test.YthaadiclopoamaaGreatDoorGD
import Derived.Test.YthaadiclopoamaaGreatDoorGE
import Derived.Test.YthaadiclopoamaaGreatDoorShelf
import Derived.Test.YthaadiclopoamaaGreatDoorGB
import Derived.Test.YthaadiclopoamaaGreatDoorGC
import Derived.Maps.OwnSet
import Derived.Maps.RangeWalk
import Derived.Sort.EncStr
/- lexic: what may be a token, and the next one. -/
set_option maxRecDepth 100000
set_option maxHeartbeats 8000000
namespace Go.Proofs.YthaadiclopoamaaGreatDoor
open Go.RowKit
open _root_.Go.Proofs.YthaadiclopoamaaGreatDoor.Act (letB digB sgnB nameB)
open Lex (blkB remB run numB sigB)

theorem text_eq (s : ByteArray) (l : List UInt8) : (s.toList == l) = decide (s = ⟨l.toArray⟩) := by
 rw [show s.toList = s.data.toList from ByteArray.toList_eq s]
 by_cases h : s = ⟨l.toArray⟩
 ·subst h; simp
 ·rw [decide_eq_false h, beq_eq_false_iff_ne]
  intro e
  exact h (by cases s; simp at e; subst e; simp)
theorem text_ne (s : ByteArray) (l : List UInt8) : (s.toList != l) = !decide (s = ⟨l.toArray⟩) := by rw [bne, text_eq]
theorem text_none (s : ByteArray) : decide (s = ⟨#[]⟩) = decide (s.size = 0) := by
 by_cases h : s = ⟨#[]⟩
 ·subst h; rfl
 ·rw [decide_eq_false h, decide_eq_false]
  intro e
  exact h (by cases s with | mk d => simp [ByteArray.size] at e; rw [e])

theorem lClone_any (s : ByteArray) (w : World) (hs : s.size <= 140737488355328) : Calls Tryz.prog 114 #[.string s] w fun e w' => e = .returned (.string s) /\ Gr w w' := by
 have HC : Hid (∀ w : World, Calls Tryz.prog 131 #[.string s] w fun e w' => e = .returned (.string s) /\ Below w.heap.size w w') := fun w => Tryz.stringslite_Clone s w (by omega)
 go_enter Tryz.func114, Tryz.ntmps114
 go_wp2_with fail
 refine (HC.out _).mono ?_
 rintro e w1 ⟨rfl, hb⟩
 go_wp2
 go_ret
 exact ⟨rfl, ⟨hb⟩⟩

theorem isWord_any (s : ByteArray) (w : World) (hs : s.size <= 9223372036854775807) : Calls Tryz.prog 172 #[.string s] w fun e w' => e = .returned (.bool (nameB s)) /\ Gr w w' := by
 have hb := text_ne s []
 rw [show (⟨[].toArray⟩ : ByteArray) = ⟨#[]⟩ from rfl, text_none] at hb
 by_cases hz : s.size = 0
 ·rw [decide_eq_true hz, show (!true) = false from rfl] at hb
  have hb2 : (s.toList == []) = true := by simpa using hb
  have HE : Hid (nameB s = false) := Act.name_empty s hz
  clear hz
  go_enter Tryz.func172, Tryz.ntmps172
  go_wp2
  go_ret
  exact ⟨by rw [HE.out]; rfl, Gr.refl _⟩
 rw [decide_eq_false hz, show (!false) = true from rfl] at hb
 have hb2 : (s.toList == []) = false := by simpa using hb
 have hp : 0 < s.size := by omega
 by_cases h16 : (s.size : Int) <= 16
 ·have HL : Hid (∀ (b : UInt8) (w : World), Calls Tryz.prog 168 #[.int .u8 (b.toNat : Int)] w fun e w' => e = .returned (.bool (letB b)) /\ w' = w) := letter_any
  have HA : Hid (∀ w : World, Calls Tryz.prog 180 #[.string s, .func (.func 169) #[] #[]] w fun e w' => e = .returned (.bool (s.data.toList.all sgnB)) /\ Gr w w') := fun w => allSgn s w hs
  cases h0 : letB (s[0]'hp) with
  | false =>
   have HE : Hid (nameB s = false) := Act.name_head s hp h0
   go_enter Tryz.func172, Tryz.ntmps172
   go_wp2_with fail
   refine (HL.out (s[0]'hp) _).mono ?_
   rintro e w1 ⟨rfl, hw1⟩; obtain rfl := hw1.symm
   go_wp2
   go_ret
   exact ⟨by rw [HE.out]; rfl, Gr.refl _⟩
  | true =>
   have HE : Hid (nameB s = s.data.toList.all sgnB) := by
    show _ = _
    unfold Act.nameB
    rw [decide_eq_true (by omega), Act.head_get s hp, h0]; rfl
   go_enter Tryz.func172, Tryz.ntmps172
   go_wp2_with fail
   refine (HL.out (s[0]'hp) _).mono ?_
   rintro e w1 ⟨rfl, hw1⟩; obtain rfl := hw1.symm
   go_wp2_with fail
   refine (HA.out _).mono ?_
   rintro e w2 ⟨rfl, hg⟩
   rw [<- HE.out]
   go_wp2
   go_ret
   exact ⟨rfl, hg⟩
 ·have HE : Hid (nameB s = false) := Act.name_long s (by omega)
  go_enter Tryz.func172, Tryz.ntmps172
  go_wp2
  go_ret
  exact ⟨by rw [HE.out]; rfl, Gr.refl _⟩

theorem isNumber_any (s : ByteArray) (w : World) (hs : s.size <= 9223372036854775807) : Calls Tryz.prog 173 #[.string s] w fun e w' => e = .returned (.bool (numB s)) /\ Gr w w' := by
 have hb := text_ne s []
 rw [show (⟨[].toArray⟩ : ByteArray) = ⟨#[]⟩ from rfl, text_none] at hb
 have ho := text_eq s [48]
 rw [show (⟨[48].toArray⟩ : ByteArray) = ⟨#[48]⟩ from rfl] at ho
 by_cases h1 : s = ⟨#[48]⟩
 ·have HE : Hid (numB s = true) := by subst h1; show _ = _; decide
  rw [decide_eq_true h1] at ho
  clear h1 hb
  go_enter Tryz.func173, Tryz.ntmps173
  go_wp2
  go_ret
  exact ⟨by rw [HE.out]; rfl, Gr.refl _⟩
 rw [decide_eq_false h1] at ho
 by_cases hz : s.size = 0
 ·rw [decide_eq_true hz, show (!true) = false from rfl] at hb
  have hb2 : (s.toList == []) = true := by simpa using hb
  have HE : Hid (numB s = false) := Lex.num_empty s hz
  clear hz h1
  go_enter Tryz.func173, Tryz.ntmps173
  go_wp2
  go_ret
  exact ⟨by rw [HE.out]; rfl, Gr.refl _⟩
 rw [decide_eq_false hz, show (!false) = true from rfl] at hb
 have hb2 : (s.toList == []) = false := by simpa using hb
 have hp : 0 < s.size := by omega
 by_cases h16 : (s.size : Int) <= 16
 ·have HA : Hid (∀ w : World, Calls Tryz.prog 180 #[.string s, .func (.func 170) #[] #[]] w fun e w' => e = .returned (.bool (s.data.toList.all digB)) /\ Gr w w') := fun w => allDig s w hs
  by_cases h0 : ((s[0]'hp).toNat : Int) = 48
  ·have HE : Hid (numB s = false) := by
    show _ = _
    unfold Lex.numB
    rw [Lex.zero_get s hp, decide_eq_true h0]
    have : s.size ≠ 1 := by
     intro e
     apply h1
     have hl : s.data.toList.length = 1 := by simp; exact e
     obtain ⟨c, hc⟩ := List.length_eq_one_iff.1 hl
     have h5 : s.data.toList[0]'(by omega) = s[0]'hp := rfl
     simp only [hc] at h5
     simp at h5
     have h6 : c = 48 := by
      apply UInt8.toNat_inj.1
      rw [h5]; simp; omega
     cases s with
     | mk d => simp at hc; rw [<- Array.toArray_toList (xs := d), hc, h6]
    rw [decide_eq_false this]; simp
   have e0 : (((s[0]'hp).toNat : Int) != 48) = false := by simpa using h0
   clear h0 h1
   go_enter Tryz.func173, Tryz.ntmps173
   go_wp2
   go_ret
   exact ⟨by rw [HE.out]; rfl, Gr.refl _⟩
  ·have HE : Hid (numB s = s.data.toList.all digB) := by
    show _ = _
    unfold Lex.numB
    rw [decide_eq_true (show 1 <= s.size by omega), decide_eq_true (show s.size <= 16 by omega), Lex.zero_get s hp, decide_eq_false h0]; simp
   have e0 : (((s[0]'hp).toNat : Int) != 48) = true := by simpa using h0
   clear h0 h1
   go_enter Tryz.func173, Tryz.ntmps173
   go_wp2_with fail
   refine (HA.out _).mono ?_
   rintro e w2 ⟨rfl, hg⟩
   rw [<- HE.out]
   go_wp2
   go_ret
   exact ⟨rfl, hg⟩
 ·have HE : Hid (numB s = false) := Lex.num_long s (by omega)
  clear h1
  go_enter Tryz.func173, Tryz.ntmps173
  go_wp2
  go_ret
  exact ⟨by rw [HE.out]; rfl, Gr.refl _⟩

theorem mayBe_any (k : Int) (s : ByteArray) (p : Int) (w : World) (hs : s.size <= 9223372036854775807) : Calls Tryz.prog 157 #[.agg #[.int .i64 k, .string s, .int .i64 p]] w fun e w' => e = .returned (.bool (Lex.mayB k s)) /\ Gr w w' := by
 unfold Lex.mayB
 by_cases h1 : k = 1
 ·subst h1
  rw [if_pos rfl]
  have HW : Hid (∀ w : World, Calls Tryz.prog 172 #[.string s] w fun e w' => e = .returned (.bool (nameB s)) /\ Gr w w') := fun w => isWord_any s w hs
  go_enter Tryz.func157, Tryz.ntmps157
  go_wp2_with fail
  refine (HW.out _).mono ?_
  rintro e w2 ⟨rfl, hg⟩
  go_wp2
  go_ret
  exact ⟨rfl, (by repeat(first|exact Gr.r _|refine Gr.a ?_|refine Gr.d ?_|refine Gr.t ?_ (by assumption)))⟩
 rw [if_neg h1]
 have e1 : (k == 1) = false := by simpa using h1
 by_cases h2 : k = 2
 ·subst h2
  rw [if_pos rfl]
  have HW : Hid (∀ w : World, Calls Tryz.prog 173 #[.string s] w fun e w' => e = .returned (.bool (numB s)) /\ Gr w w') := fun w => isNumber_any s w hs
  go_enter Tryz.func157, Tryz.ntmps157
  go_wp2_with fail
  refine (HW.out _).mono ?_
  rintro e w2 ⟨rfl, hg⟩
  go_wp2
  go_ret
  exact ⟨rfl, (by repeat(first|exact Gr.r _|refine Gr.a ?_|refine Gr.d ?_|refine Gr.t ?_ (by assumption)))⟩
 rw [if_neg h2]
 have e2 : (k == 2) = false := by simpa using h2
 by_cases h3 : k = 3
 ·subst h3
  rw [if_pos rfl]
  have a0 := text_eq s [123]
  have a1 := text_eq s [125]
  have a2 := text_eq s [59]
  rw [show (⟨[123].toArray⟩ : ByteArray) = ⟨#[123]⟩ from rfl] at a0
  rw [show (⟨[125].toArray⟩ : ByteArray) = ⟨#[125]⟩ from rfl] at a1
  rw [show (⟨[59].toArray⟩ : ByteArray) = ⟨#[59]⟩ from rfl] at a2
  have HE : Hid (sigB s = (decide (s = ⟨#[123]⟩) || decide (s = ⟨#[125]⟩) || decide (s = ⟨#[59]⟩))) := rfl
  generalize decide (s = ⟨#[123]⟩) = c0 at a0 HE
  generalize decide (s = ⟨#[125]⟩) = c1 at a1 HE
  generalize decide (s = ⟨#[59]⟩) = c2 at a2 HE
  rw [HE.out]
  cases c0 <;> cases c1 <;> cases c2
  all_goals
   go_enter Tryz.func157, Tryz.ntmps157
   go_wp2
   go_ret
   exact ⟨rfl, (by repeat(first|exact Gr.r _|refine Gr.a ?_|refine Gr.d ?_|refine Gr.t ?_ (by assumption)))⟩
 rw [if_neg h3]
 have e3 : (k == 3) = false := by simpa using h3
 go_enter Tryz.func157, Tryz.ntmps157
 go_wp2
 go_ret
 exact ⟨rfl, (by repeat(first|exact Gr.r _|refine Gr.a ?_|refine Gr.d ?_|refine Gr.t ?_ (by assumption)))⟩

theorem ext_pc (s : ByteArray) (k n : Nat) (h : n = Lex.tl (s.data.toList.drop k)) : s.extract k (k + n) = Lex.pc (s.data.toList.drop k) := by
 have e : (s.extract k (k + n)).data.toList = (s.data.toList.drop k).take n := by
  rw [Lib.extract_data]; simp
 have : ∀ (x y : ByteArray), x.data.toList = y.data.toList -> x = y := by
  intro x y hxy
  cases x with
  | mk a => cases y with
   | mk b => simp at hxy; rw [hxy]
 apply this
 rw [e, Lex.pc_list, h]
theorem PO.box {b : Nat} {w w' : World} (h : PO b w w') {g : Nat} {x y z : Value} (hb : BoxAt w g x y z) (hne : g ≠ b) : BoxAt w' g x y z :=
 ⟨h.keep hb.lt hne hb.c0, h.keep hb.lt hne hb.c1, h.keep hb.lt hne hb.c2, h.keepF hb.lt hne hb.f0, h.keepF hb.lt hne hb.f1, h.keepF hb.lt hne hb.f2, Nat.lt_of_lt_of_le hb.lt h.size⟩
theorem PlAt.setFar {w : World} {b : Nat} {s : ByteArray} {k : Nat} (h : PlAt w b s k) (p : Addr) (v : Value) (hp : p.block ≠ b) : PlAt (w.setCell p v) b s k :=
 ⟨by rw [World.cell?_setCell_far _ _ _ _ (by simpa using hp)]; exact h.c0, by rw [World.cell?_setCell_far _ _ _ _ (by simpa using hp)]; exact h.c1, by rw [World.frozen?_setCell]; exact h.f1, by simpa using h.lt⟩
theorem BoxAt.set0 {w : World} {g : Nat} {a b c : Value} (h : BoxAt w g a b c) (u : Value) : BoxAt (w.setCell ⟨g, 0, none⟩ u) g u b c := by
 obtain ⟨c0, c1, c2, f0, f1, f2, lt⟩ := h
 exact ⟨by simp [go_sem, c0], by simp [go_sem, c1], by simp [go_sem, c2], by simp [go_sem, f0], by simp [go_sem, f1], by simp [go_sem, f2], by simpa using lt⟩
theorem BoxAt.set1 {w : World} {g : Nat} {a b c : Value} (h : BoxAt w g a b c) (u : Value) : BoxAt (w.setCell ⟨g, 1, none⟩ u) g a u c := by
 obtain ⟨c0, c1, c2, f0, f1, f2, lt⟩ := h
 exact ⟨by simp [go_sem, c0], by simp [go_sem, c1], by simp [go_sem, c2], by simp [go_sem, f0], by simp [go_sem, f1], by simp [go_sem, f2], by simpa using lt⟩
theorem PO.setNew {b : Nat} {a w : World} (h : PO b a w) (p : Addr) (v : Value) (hp : a.heap.size <= p.block) (hb : p.block ≠ b) : PO b a (w.setCell p v) :=
 ⟨⟨h.grown.os, h.grown.tape, h.grown.output, by simpa using h.size, fun i hi hne => (Below.heap_setCell _ _ _ _ (by omega)).trans (h.grown.block i hi hne)⟩,
  fun o ho hl => (World.cell?_setCell_far _ _ _ _ (by simpa using hb)).trans (h.cell o ho hl), fun o hl => by rw [World.frozen?_setCell]; exact h.froz o hl⟩
theorem PO.alloc {b : Nat} {a w : World} (h : PO b a w) {o : Obj} : PO b a (w.alloc o) := h.trans (PO.ofGr (Gr.refl _).alloc)
theorem PO.drew {b : Nat} {a w : World} (h : PO b a w) : PO b a w.drew := h.trans (PO.ofGr (Gr.refl _).drew)
theorem PO.refl (b : Nat) (w : World) : PO b w w := PO.ofGr (Gr.refl _)

theorem token_any (b : Nat) (s : ByteArray) (k : Nat) (w : World) (h : PlAt w b s k) (hk : k < s.size) (hs : s.size <= 2000) :
  Calls Tryz.prog 156 #[.pointer (some ⟨b, 0, none⟩)] w fun e w' => e = .returned (.agg #[.int .i64 (Lex.fk (s[k]'hk)), .string (Lex.pc (s.data.toList.drop k)), .int .i64 (k : Int)]) /\ PlAt w' b s (k + Lex.tl (s.data.toList.drop k)) /\ PO b w w' := by
 have HH : Hid (∀ (w' : World), PlAt w' b s k -> Calls Tryz.prog 152 #[.pointer (some ⟨b, 0, none⟩)] w' fun e w2 => e = .returned (.int .u8 ((s[k]'hk).toNat : Int)) /\ Gr w' w2) := fun w' g => here_any b s k w' g hk
 have HC : Hid (∀ w', Calls Tryz.prog 114 #[.string (Lex.pc (s.data.toList.drop k))] w' fun e w2 => e = .returned (.string (Lex.pc (s.data.toList.drop k))) /\ Gr w' w2) := fun w' => lClone_any _ w' (by rw [Lex.pc_size]; have := Lex.tl_le (s.data.toList.drop k); simp at this; omega)
 have HL : Hid (∀ (w : World), Calls Tryz.prog 168 #[.int .u8 ((s[k]'hk).toNat : Int)] w fun e w' => e = .returned (.bool (letB (s[k]'hk))) /\ w' = w) := letter_any _
 have HD : Hid (∀ (w : World), Calls Tryz.prog 170 #[.int .u8 ((s[k]'hk).toNat : Int)] w fun e w' => e = .returned (.bool (digB (s[k]'hk))) /\ w' = w) := lDigit_any _
 have hdr : s.data.toList.drop k = (s[k]'hk) :: s.data.toList.drop (k + 1) := Lex.drop_get s.data.toList k (by simpa using hk)
 have HT : Hid (PlAt w b s k) := h
 obtain ⟨h0, h1, f1, hl⟩ := h
 have hb1 : b ≠ w.heap.size := by omega
 have hb2 : b ≠ w.heap.size + 1 := by omega
 cases hlt : letB (s[k]'hk) with
 | true =>
  have HK : Hid (∀ (w' : World), PlAt w' b s k -> Calls Tryz.prog 154 #[.pointer (some ⟨b, 0, none⟩), .func (.func 169) #[] #[]] w' fun e w2 => e = .returned (.string (Lex.pc (s.data.toList.drop k))) /\ PlAt w2 b s (k + Lex.tl (s.data.toList.drop k)) /\ PO b w' w2) := by
   intro w' g
   have := takeAllSgn b s k w' g (by omega) (by omega)
   have e : run sgnB (s.data.toList.drop k) = Lex.tl (s.data.toList.drop k) := by rw [hdr]; exact (Lex.tl_let _ hlt).symm
   rw [ext_pc s k _ e, e] at this
   exact this
  have HF : Hid (Lex.fk (s[k]'hk) = 1) := by show _ = _; unfold Lex.fk; rw [if_pos hlt]
  clear hdr
  go_enter Tryz.func156, Tryz.ntmps156
  go_wp2_with fail
  refine (HH.out _ (HT.out.gr (by repeat(first|exact Gr.r _|refine Gr.a ?_|refine Gr.d ?_|refine Gr.t ?_ (by assumption))))).mono ?_
  rintro e w1 ⟨rfl, hg1⟩
  have hx0 : BoxAt w1 w.heap.size (.int .i64 0) (.string ⟨#[]⟩) (.int .i64 0) := ((BoxAt.new w _ _ _ _ _ rfl).gr (Gr.refl _).alloc).gr hg1
  have hx1 : BoxAt w1 (w.heap.size + 1) (.int .i64 0) (.string ⟨#[]⟩) (.int .i64 (k : Int)) := (BoxAt.new _ _ _ _ _ _ (by simp)).gr hg1
  have HT1 : Hid (PlAt w1 b s k) := HT.out.gr (by repeat(first|exact Gr.r _|refine Gr.a ?_|refine Gr.d ?_|refine Gr.t ?_ (by assumption)))
  have HG1 : Hid (Gr w w1) := (by repeat(first|exact Gr.r _|refine Gr.a ?_|refine Gr.d ?_|refine Gr.t ?_ (by assumption)))
  clear hg1
  go_wp2_with fail
  refine (HL.out _).mono ?_
  rintro e w2 ⟨rfl, hw2⟩
  obtain rfl := hw2.symm
  rw [hlt]
  go_wp2_with fail
  refine (HK.out _ HT1.out).mono ?_
  rintro e w3 ⟨rfl, hp3, ho3⟩
  have HP3 : Hid (PlAt w3 b s (k + Lex.tl (s.data.toList.drop k))) := hp3
  have HG3 : Hid (PO b w w3) := (PO.ofGr HG1.out).trans ho3
  have HX0 : Hid (BoxAt w3 w.heap.size (.int .i64 0) (.string ⟨#[]⟩) (.int .i64 0)) := ho3.box hx0 (by omega)
  have HX1 : Hid (BoxAt w3 (w.heap.size + 1) (.int .i64 0) (.string ⟨#[]⟩) (.int .i64 (k : Int))) := ho3.box hx1 (by omega)
  obtain ⟨y0, y1, y2, g0, g1, g2, yl⟩ := HX1.out
  clear hx0 hx1 hp3 ho3
  go_wp2_with fail
  refine (HC.out _).mono ?_
  rintro e w4 ⟨rfl, hg4⟩
  have HX4 : Hid (BoxAt w4 w.heap.size (.int .i64 0) (.string ⟨#[]⟩) (.int .i64 0)) := (HX0.out.setFar _ _ (by simp)).gr hg4
  have HY4 : Hid (BoxAt w4 (w.heap.size + 1) (.int .i64 1) (.string ⟨#[]⟩) (.int .i64 (k : Int))) := (HX1.out.set0 _).gr hg4
  have HP4 : Hid (PlAt w4 b s (k + Lex.tl (s.data.toList.drop k))) := (HP3.out.setFar _ _ (by simp; omega)).gr hg4
  have HG4 : Hid (PO b w w4) := (HG3.out.setNew _ _ (by simp) (by simp; omega)).trans (PO.ofGr hg4)
  obtain ⟨x0, x1, x2, f00, f01, f02, xl⟩ := HX4.out
  obtain ⟨z0, z1, z2, k0, k1, k2, zl⟩ := HY4.out
  clear hg4 y0 y1 y2 g0 g1 g2 yl
  have hne : w.heap.size ≠ w.heap.size + 1 := by omega
  go_wp2
  rw [HF.out]
  refine bodyPost_ret (v := .agg #[.int .i64 1, .string (Lex.pc (s.data.toList.drop k)), .int .i64 (k : Int)]) (by simp [results, Tryz.results156, go_sem, x0, x1, x2]) rfl ⟨rfl, ?_, ?_⟩
  ·exact (((HP4.out.setFar _ _ (by simp; omega)).setFar _ _ (by simp; omega)).setFar _ _ (by simp; omega)).setFar _ _ (by simp; omega)
  ·exact (((HG4.out.setNew _ _ (by simp) (by simp; omega)).setNew _ _ (by simp) (by simp; omega)).setNew _ _ (by simp) (by simp; omega)).setNew _ _ (by simp) (by simp; omega)
 | false =>
  cases hdg : digB (s[k]'hk) with
  | true =>
   have HK : Hid (∀ (w' : World), PlAt w' b s k -> Calls Tryz.prog 154 #[.pointer (some ⟨b, 0, none⟩), .func (.func 170) #[] #[]] w' fun e w2 => e = .returned (.string (Lex.pc (s.data.toList.drop k))) /\ PlAt w2 b s (k + Lex.tl (s.data.toList.drop k)) /\ PO b w' w2) := by
    intro w' g
    have := takeAllDig b s k w' g (by omega) (by omega)
    have e : run digB (s.data.toList.drop k) = Lex.tl (s.data.toList.drop k) := by rw [hdr]; exact (Lex.tl_dig _ hlt hdg).symm
    rw [ext_pc s k _ e, e] at this
    exact this
   have HF : Hid (Lex.fk (s[k]'hk) = 2) := by show _ = _; unfold Lex.fk; rw [if_neg (by rw [hlt]; simp), if_pos hdg]
   clear hdr
   go_enter Tryz.func156, Tryz.ntmps156
   go_wp2_with fail
   refine (HH.out _ (HT.out.gr (by repeat(first|exact Gr.r _|refine Gr.a ?_|refine Gr.d ?_|refine Gr.t ?_ (by assumption))))).mono ?_
   rintro e w1 ⟨rfl, hg1⟩
   have hx0 : BoxAt w1 w.heap.size (.int .i64 0) (.string ⟨#[]⟩) (.int .i64 0) := ((BoxAt.new w _ _ _ _ _ rfl).gr (Gr.refl _).alloc).gr hg1
   have hx1 : BoxAt w1 (w.heap.size + 1) (.int .i64 0) (.string ⟨#[]⟩) (.int .i64 (k : Int)) := (BoxAt.new _ _ _ _ _ _ (by simp)).gr hg1
   have HT1 : Hid (PlAt w1 b s k) := HT.out.gr (by repeat(first|exact Gr.r _|refine Gr.a ?_|refine Gr.d ?_|refine Gr.t ?_ (by assumption)))
   have HG1 : Hid (Gr w w1) := (by repeat(first|exact Gr.r _|refine Gr.a ?_|refine Gr.d ?_|refine Gr.t ?_ (by assumption)))
   clear hg1
   go_wp2_with fail
   refine (HL.out _).mono ?_
   rintro e w2 ⟨rfl, hw2⟩
   obtain rfl := hw2.symm
   rw [hlt]
   go_wp2_with fail
   refine (HD.out _).mono ?_
   rintro e w2 ⟨rfl, hw2⟩
   obtain rfl := hw2.symm
   rw [hdg]
   go_wp2_with fail
   refine (HK.out _ HT1.out).mono ?_
   rintro e w3 ⟨rfl, hp3, ho3⟩
   have HP3 : Hid (PlAt w3 b s (k + Lex.tl (s.data.toList.drop k))) := hp3
   have HG3 : Hid (PO b w w3) := (PO.ofGr HG1.out).trans ho3
   have HX0 : Hid (BoxAt w3 w.heap.size (.int .i64 0) (.string ⟨#[]⟩) (.int .i64 0)) := ho3.box hx0 (by omega)
   have HX1 : Hid (BoxAt w3 (w.heap.size + 1) (.int .i64 0) (.string ⟨#[]⟩) (.int .i64 (k : Int))) := ho3.box hx1 (by omega)
   obtain ⟨y0, y1, y2, g0, g1, g2, yl⟩ := HX1.out
   clear hx0 hx1 hp3 ho3
   go_wp2_with fail
   refine (HC.out _).mono ?_
   rintro e w4 ⟨rfl, hg4⟩
   have HX4 : Hid (BoxAt w4 w.heap.size (.int .i64 0) (.string ⟨#[]⟩) (.int .i64 0)) := (HX0.out.setFar _ _ (by simp)).gr hg4
   have HY4 : Hid (BoxAt w4 (w.heap.size + 1) (.int .i64 2) (.string ⟨#[]⟩) (.int .i64 (k : Int))) := (HX1.out.set0 _).gr hg4
   have HP4 : Hid (PlAt w4 b s (k + Lex.tl (s.data.toList.drop k))) := (HP3.out.setFar _ _ (by simp; omega)).gr hg4
   have HG4 : Hid (PO b w w4) := (HG3.out.setNew _ _ (by simp) (by simp; omega)).trans (PO.ofGr hg4)
   obtain ⟨x0, x1, x2, f00, f01, f02, xl⟩ := HX4.out
   obtain ⟨z0, z1, z2, k0, k1, k2, zl⟩ := HY4.out
   clear hg4 y0 y1 y2 g0 g1 g2 yl
   have hne : w.heap.size ≠ w.heap.size + 1 := by omega
   go_wp2
   rw [HF.out]
   refine bodyPost_ret (v := .agg #[.int .i64 2, .string (Lex.pc (s.data.toList.drop k)), .int .i64 (k : Int)]) (by simp [results, Tryz.results156, go_sem, x0, x1, x2]) rfl ⟨rfl, ?_, ?_⟩
   ·exact (((HP4.out.setFar _ _ (by simp; omega)).setFar _ _ (by simp; omega)).setFar _ _ (by simp; omega)).setFar _ _ (by simp; omega)
   ·exact (((HG4.out.setNew _ _ (by simp) (by simp; omega)).setNew _ _ (by simp) (by simp; omega)).setNew _ _ (by simp) (by simp; omega)).setNew _ _ (by simp) (by simp; omega)
  | false =>
   have HK : Hid (∀ (w' : World), PlAt w' b s k -> Calls Tryz.prog 171 #[.pointer (some ⟨b, 0, none⟩)] w' fun e w2 => e = .returned (.string (Lex.pc (s.data.toList.drop k))) /\ PlAt w2 b s (k + Lex.tl (s.data.toList.drop k)) /\ PO b w' w2) := by
    intro w' g
    have := take_any b s k w' g hk (by omega)
    have e : 1 = Lex.tl (s.data.toList.drop k) := by rw [hdr]; exact (Lex.tl_one _ hlt hdg).symm
    rw [ext_pc s k _ e, e] at this
    exact this
   have HF : Hid (Lex.fk (s[k]'hk) = 3) := by show _ = _; unfold Lex.fk; rw [if_neg (by rw [hlt]; simp), if_neg (by rw [hdg]; simp)]
   clear hdr
   go_enter Tryz.func156, Tryz.ntmps156
   go_wp2_with fail
   refine (HH.out _ (HT.out.gr (by repeat(first|exact Gr.r _|refine Gr.a ?_|refine Gr.d ?_|refine Gr.t ?_ (by assumption))))).mono ?_
   rintro e w1 ⟨rfl, hg1⟩
   have hx0 : BoxAt w1 w.heap.size (.int .i64 0) (.string ⟨#[]⟩) (.int .i64 0) := ((BoxAt.new w _ _ _ _ _ rfl).gr (Gr.refl _).alloc).gr hg1
   have hx1 : BoxAt w1 (w.heap.size + 1) (.int .i64 0) (.string ⟨#[]⟩) (.int .i64 (k : Int)) := (BoxAt.new _ _ _ _ _ _ (by simp)).gr hg1
   have HT1 : Hid (PlAt w1 b s k) := HT.out.gr (by repeat(first|exact Gr.r _|refine Gr.a ?_|refine Gr.d ?_|refine Gr.t ?_ (by assumption)))
   have HG1 : Hid (Gr w w1) := (by repeat(first|exact Gr.r _|refine Gr.a ?_|refine Gr.d ?_|refine Gr.t ?_ (by assumption)))
   clear hg1
   go_wp2_with fail
   refine (HL.out _).mono ?_
   rintro e w2 ⟨rfl, hw2⟩
   obtain rfl := hw2.symm
   rw [hlt]
   go_wp2_with fail
   refine (HD.out _).mono ?_
   rintro e w2 ⟨rfl, hw2⟩
   obtain rfl := hw2.symm
   rw [hdg]
   go_wp2_with fail
   refine (HK.out _ HT1.out).mono ?_
   rintro e w3 ⟨rfl, hp3, ho3⟩
   have HP3 : Hid (PlAt w3 b s (k + Lex.tl (s.data.toList.drop k))) := hp3
   have HG3 : Hid (PO b w w3) := (PO.ofGr HG1.out).trans ho3
   have HX0 : Hid (BoxAt w3 w.heap.size (.int .i64 0) (.string ⟨#[]⟩) (.int .i64 0)) := ho3.box hx0 (by omega)
   have HX1 : Hid (BoxAt w3 (w.heap.size + 1) (.int .i64 0) (.string ⟨#[]⟩) (.int .i64 (k : Int))) := ho3.box hx1 (by omega)
   obtain ⟨y0, y1, y2, g0, g1, g2, yl⟩ := HX1.out
   clear hx0 hx1 hp3 ho3
   go_wp2_with fail
   refine (HC.out _).mono ?_
   rintro e w4 ⟨rfl, hg4⟩
   have HX4 : Hid (BoxAt w4 w.heap.size (.int .i64 0) (.string ⟨#[]⟩) (.int .i64 0)) := (HX0.out.setFar _ _ (by simp)).gr hg4
   have HY4 : Hid (BoxAt w4 (w.heap.size + 1) (.int .i64 3) (.string ⟨#[]⟩) (.int .i64 (k : Int))) := (HX1.out.set0 _).gr hg4
   have HP4 : Hid (PlAt w4 b s (k + Lex.tl (s.data.toList.drop k))) := (HP3.out.setFar _ _ (by simp; omega)).gr hg4
   have HG4 : Hid (PO b w w4) := (HG3.out.setNew _ _ (by simp) (by simp; omega)).trans (PO.ofGr hg4)
   obtain ⟨x0, x1, x2, f00, f01, f02, xl⟩ := HX4.out
   obtain ⟨z0, z1, z2, k0, k1, k2, zl⟩ := HY4.out
   clear hg4 y0 y1 y2 g0 g1 g2 yl
   have hne : w.heap.size ≠ w.heap.size + 1 := by omega
   go_wp2
   rw [HF.out]
   refine bodyPost_ret (v := .agg #[.int .i64 3, .string (Lex.pc (s.data.toList.drop k)), .int .i64 (k : Int)]) (by simp [results, Tryz.results156, go_sem, x0, x1, x2]) rfl ⟨rfl, ?_, ?_⟩
   ·exact (((HP4.out.setFar _ _ (by simp; omega)).setFar _ _ (by simp; omega)).setFar _ _ (by simp; omega)).setFar _ _ (by simp; omega)
   ·exact (((HG4.out.setNew _ _ (by simp) (by simp; omega)).setNew _ _ (by simp) (by simp; omega)).setNew _ _ (by simp) (by simp; omega)).setNew _ _ (by simp) (by simp; omega)
end Go.Proofs.YthaadiclopoamaaGreatDoor
/- Definitions in memory: steps, readers of tokens, the map of kinds. -/
set_option maxRecDepth 100000
set_option maxHeartbeats 8000000
namespace Go.Proofs.YthaadiclopoamaaGreatDoor
open Go.RowKit Go.Maps
open Lex (Tok)
open Df (Stp St tk)

def stpC (x : Stp) : List Value := [.int .i64 x.k, .string x.a, .int .i64 x.n, .int .i64 x.o, .string x.u, .int .i64 x.y, .int .i64 x.v]
theorem stpC_len (x : Stp) : (stpC x).length = 7 := rfl
abbrev StpsAt := RowAt stpC
theorem stp_one (L : List Stp) : ∀ u ∈ L.flatMap stpC, u.oneCell' = true := by
 intro u hu
 rw [List.mem_flatMap] at hu
 obtain ⟨h, _, hu⟩ := hu
 simp [stpC] at hu
 rcases hu with rfl | rfl | rfl | rfl | rfl | rfl | rfl <;> rfl
theorem StpsAt.at {w : World} {ad : Option Addr} {L : List Stp} (h : StpsAt w ad L) (k : Nat) (hk : k < L.length) : ∃ b off, ad = some ⟨b, off, none⟩ /\ b < w.heap.size /\
  w.cell? ⟨b, off + k * 7, none⟩ = some (.int .i64 L[k].k) /\ w.cell? ⟨b, off + k * 7 + 1, none⟩ = some (.string L[k].a) /\ w.cell? ⟨b, off + k * 7 + 2, none⟩ = some (.int .i64 L[k].n) /\ w.cell? ⟨b, off + k * 7 + 3, none⟩ = some (.int .i64 L[k].o) /\
  w.cell? ⟨b, off + k * 7 + 4, none⟩ = some (.string L[k].u) /\ w.cell? ⟨b, off + k * 7 + 5, none⟩ = some (.int .i64 L[k].y) /\ w.cell? ⟨b, off + k * 7 + 6, none⟩ = some (.int .i64 L[k].v) := by
 have g := fun i hi => flat_get stpC_len L k hk i hi
 obtain ⟨b, off, rfl, hb, c0⟩ := h _ _ (g 0 (by omega))
 obtain ⟨_, _, e, _, c1⟩ := h _ _ (g 1 (by omega)); cases e
 obtain ⟨_, _, e, _, c2⟩ := h _ _ (g 2 (by omega)); cases e
 obtain ⟨_, _, e, _, c3⟩ := h _ _ (g 3 (by omega)); cases e
 obtain ⟨_, _, e, _, c4⟩ := h _ _ (g 4 (by omega)); cases e
 obtain ⟨_, _, e, _, c5⟩ := h _ _ (g 5 (by omega)); cases e
 obtain ⟨_, _, e, _, c6⟩ := h _ _ (g 6 (by omega)); cases e
 rw [<- Nat.add_assoc] at c1 c2 c3 c4 c5 c6
 exact ⟨b, off, rfl, hb, c0, c1, c2, c3, c4, c5, c6⟩
theorem infoStp : (Tryz.prog.info? 94).map (fun i => (i.zero, i.size, i.bytes)) = some (some (.agg #[.int .i64 0, .string ⟨#[]⟩, .int .i64 0, .int .i64 0, .string ⟨#[]⟩, .int .i64 0, .int .i64 0]), 7, 72) := by kernel_rfl

/- the kinds by their words, as a map -/
def ks (s : ByteArray) : Lit := .string s.data.toList
def kD : DataW Unit := ((((DataW.map []).put (ks Df.wDebit) (.lit (.int .i64 1))).put (ks Df.wCredit) (.lit (.int .i64 2))).put (ks Df.wReserve) (.lit (.int .i64 3))).put (ks Df.wRelease) (.lit (.int .i64 4))
def MapK (w : World) (m : Nat) : Prop := w.ownsMap Tryz.prog 9 (plainElem (H := Unit) Tryz.prog 3) m 4 kD
theorem ks_inj {s t : ByteArray} (h : ks s = ks t) : s = t := Lex.list_bytes (by unfold ks at h; exact Lit.string.inj h)
theorem ks_key (s : ByteArray) : WideAt.IsKeyLit (ks s) := trivial
theorem kD_at (s : ByteArray) (z : DataW Unit) : kD.atKey (ks s) z = if Df.kw s = 0 then z else .lit (.int .i64 (Df.kw s)) := by
 unfold kD Df.kw
 by_cases h4 : s = Df.wRelease
 ·subst h4
  rw [atKey_put_same (isMap_empty.put _ _ |>.put _ _ |>.put _ _) (ks_key _)]; rfl
 ·rw [atKey_put_other (fun e => h4 (ks_inj e))]
  by_cases h3 : s = Df.wReserve
  ·subst h3
   rw [atKey_put_same (isMap_empty.put _ _ |>.put _ _) (ks_key _)]; rfl
  ·rw [atKey_put_other (fun e => h3 (ks_inj e))]
   by_cases h2 : s = Df.wCredit
   ·subst h2
    rw [atKey_put_same (isMap_empty.put _ _) (ks_key _)]; rfl
   ·rw [atKey_put_other (fun e => h2 (ks_inj e))]
    by_cases h1 : s = Df.wDebit
    ·subst h1
     rw [atKey_put_same isMap_empty (ks_key _)]; rfl
    ·rw [atKey_put_other (fun e => h1 (ks_inj e))]
     rw [if_neg h1, if_neg h2, if_neg h3, if_neg h4, if_pos rfl]; rfl
theorem kD_has (s : ByteArray) : Maps.has kD (ks s) = decide (Df.kw s ≠ 0) := by
 by_cases h : Df.kw s = 0
 ·rw [decide_eq_false (fun e => e h)]
  exact has_false_of_atKey (fun z => by rw [kD_at, if_pos h])
 ·rw [decide_eq_true h]
  exact has_true_of_atKey (y := .lit (.int .i64 (Df.kw s))) (fun z => by rw [kD_at, if_neg h])
theorem MapK.gr {w w' : World} {m : Nat} (h : MapK w m) (g : Gr w w') : MapK w' m := World.ownsMap.kept h (row := none) ⟨g.below.os, g.below.tape, g.below.output, g.size, fun k hk _ => g.below.block k hk⟩ (by simp)
theorem MapK.set {w : World} {m : Nat} (h : MapK w m) (p : Addr) (v : Value) (hp : p.block ≠ m) : MapK (w.setCell p v) m := World.ownsMap.setCell h (fun e => hp e.symm) v
theorem MapK.lt {w : World} {m : Nat} (h : MapK w m) : m < w.heap.size := World.ownsMap.lt h

/- a reader in memory -/
structure Rd (w : World) (b m : Nat) (ad : Option Addr) (T : List Tok) (cap : Nat) (q : St) : Prop where
 c0 : w.cell? ⟨b, 0, none⟩ = some (.slice ad T.length cap)
 c1 : w.cell? ⟨b, 1, none⟩ = some (.int .i64 (q.i : Int))
 c2 : w.cell? ⟨b, 2, none⟩ = some (.bool q.s)
 c3 : w.cell? ⟨b, 3, none⟩ = some (.map (some m))
 f1 : w.frozen? ⟨b, 1, none⟩ = false
 f2 : w.frozen? ⟨b, 2, none⟩ = false
 lt : b < w.heap.size
 ts : ToksAt w ad T
 na : ∀ a, ad = some a -> a.block ≠ b /\ a.block < w.heap.size
 mp : MapK w m
 nm : m ≠ b
theorem Rd.gr {w w' : World} {b m : Nat} {ad : Option Addr} {T : List Tok} {cap : Nat} {q : St} (h : Rd w b m ad T cap q) (g : Gr w w') : Rd w' b m ad T cap q :=
 ⟨g.keep h.c0, g.keep h.c1, g.keep h.c2, g.keep h.c3, g.keepF h.lt h.f1, g.keepF h.lt h.f2, Nat.lt_of_lt_of_le h.lt g.size, h.ts.gr g, fun a e => ⟨(h.na a e).1, Nat.lt_of_lt_of_le (h.na a e).2 g.size⟩, h.mp.gr g, h.nm⟩
theorem Rd.set1 {w : World} {b m : Nat} {ad : Option Addr} {T : List Tok} {cap : Nat} {q : St} (h : Rd w b m ad T cap q) (i : Nat) : Rd (w.setCell ⟨b, 1, none⟩ (.int .i64 (i : Int))) b m ad T cap ⟨i, q.s⟩ := by
 obtain ⟨c0, c1, c2, c3, f1, f2, lt, ts, na, mp, nm⟩ := h
 exact ⟨by simp [go_sem, *], by simp [go_sem, *], by simp [go_sem, *], by simp [go_sem, *], by simp [go_sem, *], by simp [go_sem, *], by simpa using lt, ts.setFar _ _ (fun a e => (na a e).1.symm), fun a e => ⟨(na a e).1, by simpa using (na a e).2⟩, mp.set _ _ nm.symm, nm⟩
theorem Rd.set2 {w : World} {b m : Nat} {ad : Option Addr} {T : List Tok} {cap : Nat} {q : St} (h : Rd w b m ad T cap q) (s : Bool) : Rd (w.setCell ⟨b, 2, none⟩ (.bool s)) b m ad T cap ⟨q.i, s⟩ := by
 obtain ⟨c0, c1, c2, c3, f1, f2, lt, ts, na, mp, nm⟩ := h
 exact ⟨by simp [go_sem, *], by simp [go_sem, *], by simp [go_sem, *], by simp [go_sem, *], by simp [go_sem, *], by simp [go_sem, *], by simpa using lt, ts.setFar _ _ (fun a e => (na a e).1.symm), fun a e => ⟨(na a e).1, by simpa using (na a e).2⟩, mp.set _ _ nm.symm, nm⟩
theorem Rd.setFar {w : World} {b m : Nat} {ad : Option Addr} {T : List Tok} {cap : Nat} {q : St} (h : Rd w b m ad T cap q) (p : Addr) (v : Value) (hb : p.block ≠ b) (hm : p.block ≠ m) (ha : ∀ a, ad = some a -> p.block ≠ a.block) : Rd (w.setCell p v) b m ad T cap q := by
 have key : ∀ o, (w.setCell p v).cell? ⟨b, o, none⟩ = w.cell? ⟨b, o, none⟩ := fun o => World.cell?_setCell_far _ _ _ _ (by simpa using hb)
 have keyF : ∀ o, (w.setCell p v).frozen? ⟨b, o, none⟩ = w.frozen? ⟨b, o, none⟩ := fun o => World.frozen?_setCell _ _ _ _
 exact ⟨(key 0).trans h.c0, (key 1).trans h.c1, (key 2).trans h.c2, (key 3).trans h.c3, (keyF 1).trans h.f1, (keyF 2).trans h.f2, by simpa using h.lt, h.ts.setFar _ _ ha, fun a e => ⟨(h.na a e).1, by simpa using (h.na a e).2⟩, h.mp.set _ _ hm, h.nm⟩
/- where all that a reader leads to lies below a world's end -/
theorem Rd.setTop {w : World} {b m : Nat} {ad : Option Addr} {T : List Tok} {cap : Nat} {q q0 : St} {w0 : World} (h : Rd w b m ad T cap q) (h0 : Rd w0 b m ad T cap q0) (p : Addr) (v : Value) (hp : w0.heap.size <= p.block) : Rd (w.setCell p v) b m ad T cap q :=
 h.setFar p v (by have := h0.lt; omega) (by have := h0.mp.lt; omega) (fun a e => by have := (h0.na a e).2; omega)
end Go.Proofs.YthaadiclopoamaaGreatDoor
/- Plain mathematics of places: where tokens stand, and that blanks stand between them. -/
set_option maxRecDepth 100000
set_option maxHeartbeats 8000000
namespace Go.Proofs.YthaadiclopoamaaGreatDoor.Lex
open _root_.Go.Proofs.YthaadiclopoamaaGreatDoor.Act (letB digB sgnB nameB headB)

/- blanks alone: whether a remark is open behind them -/
def bl1 (r : Bool) (b : UInt8) : Bool := if (b.toNat : Int) = 10 then false else if (b.toNat : Int) = 35 then true else r
def bad1 (r : Bool) (b : UInt8) : Bool := !bl1 r b && !decide ((b.toNat : Int) = 32) && !decide ((b.toNat : Int) = 9) && !decide ((b.toNat : Int) = 10)
def blf : Bool -> List UInt8 -> Option Bool
 | r, [] => some r
 | r, b :: t => if bad1 r b = true then none else blf (bl1 r b) t
def blanksB (l : List UInt8) : Bool := (blf false l).isSome
/- the places of tokens, as the law asks -/
def pl (L : List UInt8) : Nat -> List Tok -> Prop
 | a, [] => a = L.length
 | a, x :: t => ∃ p : Nat, x.p = p /\ a <= p /\ p + x.t.size <= L.length /\ (L.drop p).take x.t.size = x.t.data.toList /\ blanksB ((L.drop a).take (p - a)) = true /\ pl L (p + x.t.size) t
theorem may_kd {s : ByteArray} (h : kd s ≠ 0) : mayB (kd s) s = true := by
 unfold kd at h ⊢
 unfold mayB
 split
 ·rename_i h1; simp [h1]
 ·split
  ·rename_i h1; simp [h1]
  ·split
   ·rename_i h1; simp [h1]
   ·rename_i h1 h2 h3
    rw [if_neg h1, if_neg h2, if_neg h3] at h
    exact absurd rfl h
theorem okays : ∀ (f : Nat) (l : List UInt8) (a : Nat), l.length < f -> (scn f l a).2 = none -> ∃ I e, (scn f l a).1 = I ++ [e] /\ endT e = true /\ I.all okT = true := by
 intro f
 induction f with
 | zero => intro l a h; omega
 | succ f ih =>
  intro l a hf h
  cases l with
  | nil => exact ⟨[], _, rfl, by unfold endT; simp, rfl⟩
  | cons b t =>
   rw [List.length_cons] at hf
   unfold scn at h ⊢
   split at h
   ·rename_i hb
    rw [if_pos hb]
    exact ih t (a + 1) (by omega) h
   ·rename_i hb
    rw [if_neg hb]
    split at h
    ·rename_i h35
     rw [if_pos h35]
     have := rem_pos t h35
     exact ih _ _ (by simp; omega) h
    ·rename_i h35
     rw [if_neg h35]
     split at h
     ·cases h
     ·rename_i hk
      rw [if_neg hk]
      have := tl_pos b t
      obtain ⟨I, e, h1, h2, h3⟩ := ih _ _ (by simp; omega) h
      refine ⟨⟨kd (pc (b :: t)), pc (b :: t), a⟩ :: I, e, ?_, h2, ?_⟩
      ·show _ :: (scn f _ _).1 = _
       rw [h1]; rfl
      ·rw [List.all_cons, h3, Bool.and_true]
       exact may_kd hk
theorem okays_S (L : List UInt8) (h : (S L 0).2 = none) : ckE (S L 0).1 ≠ 80 := by
 obtain ⟨I, e, h1, h2, h3⟩ := okays (L.length + 1) L 0 (by omega) h
 show ckE (scn (L.length + 1) L 0).1 ≠ 80
 rw [h1, ck_snoc, if_pos h2, if_pos h3]
 split <;> decide
/- every token of a text lies in it -/
theorem tok_rng : ∀ (f : Nat) (l : List UInt8) (a : Nat), ∀ x ∈ (scn f l a).1, (∃ n : Nat, x.p = n /\ n <= a + l.length) /\ x.t.size <= l.length := by
 intro f
 induction f with
 | zero => intro l a x hx; simp [scn] at hx
 | succ f ih =>
  intro l a x hx
  cases l with
  | nil => simp [scn] at hx; subst hx; exact ⟨⟨a, rfl, by omega⟩, by show (0 : Nat) <= _; omega⟩
  | cons b t =>
   unfold scn at hx
   split at hx
   ·obtain ⟨⟨n, h1, h2⟩, h3⟩ := ih t (a + 1) x hx
    exact ⟨⟨n, h1, by simp; omega⟩, by simp; omega⟩
   ·split at hx
    ·obtain ⟨⟨n, h1, h2⟩, h3⟩ := ih _ _ x hx
     have h4 := run_le remB (b :: t)
     rw [List.length_drop] at h2 h3
     exact ⟨⟨n, h1, by omega⟩, by omega⟩
    ·split at hx
     ·simp at hx
     ·have h4 := tl_le (b :: t)
      rcases List.mem_cons.1 hx with rfl | hx
      ·exact ⟨⟨a, rfl, by omega⟩, by show (pc (b :: t)).size <= _; rw [pc_size]; exact h4⟩
      ·obtain ⟨⟨n, h1, h2⟩, h3⟩ := ih _ _ x hx
       rw [List.length_drop] at h2 h3
       exact ⟨⟨n, h1, by omega⟩, by omega⟩

end Go.Proofs.YthaadiclopoamaaGreatDoor.Lex
