/- What the proof is made of, part 5. -/
import Derived.Test.YtfobfpigbfepoaaGreatDoorTLBTexts4
import Derived.Maps.OwnSet
import Derived.Maps.RangeWalk
import Derived.Sort.EncStr
import Derived.RangeFuncOwn
namespace Go.Proofs.YtfobfpigbfepoaaGreatDoor
open Go.RowKit
open _root_.Go.Proofs.YtfobfpigbfepoaaGreatDoor.Act (letB digB sgnB nameB)
open Lex (blkB remB run numB sigB)
theorem text_eq (s : ByteArray) (l : List UInt8) : (s.toList == l) = decide (s = ⟨l.toArray⟩) := by
  rw [show s.toList = s.data.toList from ByteArray.toList_eq s]
  by_cases h : s = ⟨l.toArray⟩
  · subst h; simp
  · rw [decide_eq_false h, beq_eq_false_iff_ne]
    intro e
    exact h (by cases s; simp at e; subst e; simp)
theorem text_ne (s : ByteArray) (l : List UInt8) : (s.toList != l) = !decide (s = ⟨l.toArray⟩) := by rw [bne, text_eq]
theorem text_none (s : ByteArray) : decide (s = ⟨#[]⟩) = decide (s.size = 0) := by
  by_cases h : s = ⟨#[]⟩
  · subst h; rfl
  · rw [decide_eq_false h, decide_eq_false]
    intro e
    exact h (by cases s with | mk d => simp [ByteArray.size] at e; rw [e])
set_option maxHeartbeats 400000 in
theorem clone_any (s : ByteArray) (w : World) (hs : s.size ≤ 140737488355328) : Calls Tryz.prog 53 #[.string s] w fun e w' => e = .returned (.string s) ∧ Gr w w' := by
  have HC : Hid (∀ w : World, Calls Tryz.prog 83 #[.string s] w fun e w' => e = .returned (.string s) ∧ Below w.heap.size w w') := fun w => Tryz.stringslite_Clone s w (by omega)
  go_enter Tryz.func53, Tryz.ntmps53
  go_wp2_with fail
  refine (HC.out _).mono ?_
  rintro e w1 ⟨rfl, hb⟩
  go_wp2
  go_ret
  exact ⟨rfl, ⟨hb⟩⟩
set_option maxHeartbeats 2000000 in
theorem isWord_any (s : ByteArray) (w : World) (hs : s.size ≤ 9223372036854775807) : Calls Tryz.prog 95 #[.string s] w fun e w' => e = .returned (.bool (nameB s)) ∧ Gr w w' := by
  have hb := text_ne s []
  rw [show (⟨[].toArray⟩ : ByteArray) = ⟨#[]⟩ from rfl, text_none] at hb
  by_cases hz : s.size = 0
  · rw [decide_eq_true hz, show (!true) = false from rfl] at hb
    have hb2 : (s.toList == []) = true := by simpa using hb
    have HE : Hid (nameB s = false) := Act.name_empty s hz
    clear hz
    go_enter Tryz.func95, Tryz.ntmps95
    go_wp2
    go_ret
    exact ⟨by rw [HE.out]; rfl, Gr.refl _⟩
  rw [decide_eq_false hz, show (!false) = true from rfl] at hb
  have hb2 : (s.toList == []) = false := by simpa using hb
  have hp : 0 < s.size := by omega
  by_cases h16 : (s.size : Int) ≤ 16
  · have HL : Hid (∀ (b : UInt8) (w : World), Calls Tryz.prog 91 #[.int .u8 (b.toNat : Int)] w fun e w' => e = .returned (.bool (letB b)) ∧ w' = w) := letter_any
    have HA : Hid (∀ w : World, Calls Tryz.prog 109 #[.string s, .func (.func 92) #[] #[]] w fun e w' => e = .returned (.bool (s.data.toList.all sgnB)) ∧ Gr w w') := fun w => allSgn s w hs
    cases h0 : letB (s[0]'hp) with
    | false =>
      have HE : Hid (nameB s = false) := Act.name_head s hp h0
      go_enter Tryz.func95, Tryz.ntmps95
      go_wp2_with fail
      refine (HL.out (s[0]'hp) _).mono ?_
      rintro e w1 ⟨rfl, hw1⟩; obtain rfl := hw1.symm
      go_wp2
      go_ret
      exact ⟨by rw [HE.out]; rfl, Gr.refl _⟩
    | true =>
      have HE : Hid (nameB s = s.data.toList.all sgnB) := by
        show _ = _
        unfold Act.nameB
        rw [decide_eq_true (by omega), Act.head_get s hp, h0]; rfl
      go_enter Tryz.func95, Tryz.ntmps95
      go_wp2_with fail
      refine (HL.out (s[0]'hp) _).mono ?_
      rintro e w1 ⟨rfl, hw1⟩; obtain rfl := hw1.symm
      go_wp2_with fail
      refine (HA.out _).mono ?_
      rintro e w2 ⟨rfl, hg⟩
      rw [← HE.out]
      go_wp2
      go_ret
      exact ⟨rfl, hg⟩
  · have HE : Hid (nameB s = false) := Act.name_long s (by omega)
    go_enter Tryz.func95, Tryz.ntmps95
    go_wp2
    go_ret
    exact ⟨by rw [HE.out]; rfl, Gr.refl _⟩
set_option maxHeartbeats 2000000 in
theorem isNumber_any (s : ByteArray) (w : World) (hs : s.size ≤ 9223372036854775807) : Calls Tryz.prog 96 #[.string s] w fun e w' => e = .returned (.bool (numB s)) ∧ Gr w w' := by
  have hb := text_ne s []
  rw [show (⟨[].toArray⟩ : ByteArray) = ⟨#[]⟩ from rfl, text_none] at hb
  have ho := text_eq s [48]
  rw [show (⟨[48].toArray⟩ : ByteArray) = ⟨#[48]⟩ from rfl] at ho
  by_cases h1 : s = ⟨#[48]⟩
  · have HE : Hid (numB s = true) := by subst h1; show _ = _; decide
    rw [decide_eq_true h1] at ho
    clear h1 hb
    go_enter Tryz.func96, Tryz.ntmps96
    go_wp2
    go_ret
    exact ⟨by rw [HE.out]; rfl, Gr.refl _⟩
  rw [decide_eq_false h1] at ho
  by_cases hz : s.size = 0
  · rw [decide_eq_true hz, show (!true) = false from rfl] at hb
    have hb2 : (s.toList == []) = true := by simpa using hb
    have HE : Hid (numB s = false) := Lex.num_empty s hz
    clear hz h1
    go_enter Tryz.func96, Tryz.ntmps96
    go_wp2
    go_ret
    exact ⟨by rw [HE.out]; rfl, Gr.refl _⟩
  rw [decide_eq_false hz, show (!false) = true from rfl] at hb
  have hb2 : (s.toList == []) = false := by simpa using hb
  have hp : 0 < s.size := by omega
  by_cases h16 : (s.size : Int) ≤ 16
  · have HA : Hid (∀ w : World, Calls Tryz.prog 109 #[.string s, .func (.func 93) #[] #[]] w fun e w' => e = .returned (.bool (s.data.toList.all digB)) ∧ Gr w w') := fun w => allDig s w hs
    by_cases h0 : ((s[0]'hp).toNat : Int) = 48
    · have HE : Hid (numB s = false) := by
        show _ = _
        unfold Lex.numB
        rw [Lex.zero_get s hp, decide_eq_true h0]
        have : s.size ≠ 1 := by
          intro e
          apply h1
          have hl : s.data.toList.length = 1 := by simp; exact e
          obtain ⟨c, hc⟩ := List.length_eq_one_iff.1 hl
          have h5 : s.data.toList[0]'(by omega) = s[0]'hp := rfl
          simp only [hc] at h5
          simp at h5
          have h6 : c = 48 := by
            apply UInt8.toNat_inj.1
            rw [h5]; simp; omega
          cases s with
          | mk d => simp at hc; rw [← Array.toArray_toList (xs := d), hc, h6]
        rw [decide_eq_false this]; simp
      have e0 : (((s[0]'hp).toNat : Int) != 48) = false := by simpa using h0
      clear h0 h1
      go_enter Tryz.func96, Tryz.ntmps96
      go_wp2
      go_ret
      exact ⟨by rw [HE.out]; rfl, Gr.refl _⟩
    · have HE : Hid (numB s = s.data.toList.all digB) := by
        show _ = _
        unfold Lex.numB
        rw [decide_eq_true (show 1 ≤ s.size by omega), decide_eq_true (show s.size ≤ 16 by omega), Lex.zero_get s hp, decide_eq_false h0]; simp
      have e0 : (((s[0]'hp).toNat : Int) != 48) = true := by simpa using h0
      clear h0 h1
      go_enter Tryz.func96, Tryz.ntmps96
      go_wp2_with fail
      refine (HA.out _).mono ?_
      rintro e w2 ⟨rfl, hg⟩
      rw [← HE.out]
      go_wp2
      go_ret
      exact ⟨rfl, hg⟩
  · have HE : Hid (numB s = false) := Lex.num_long s (by omega)
    clear h1
    go_enter Tryz.func96, Tryz.ntmps96
    go_wp2
    go_ret
    exact ⟨by rw [HE.out]; rfl, Gr.refl _⟩
set_option maxHeartbeats 2000000 in
theorem mayBe_any (k : Int) (s : ByteArray) (p : Int) (w : World) (hs : s.size ≤ 9223372036854775807) : Calls Tryz.prog 71 #[.agg #[.int .i64 k, .string s, .int .i64 p]] w fun e w' => e = .returned (.bool (Lex.mayB k s)) ∧ Gr w w' := by
  unfold Lex.mayB
  by_cases h1 : k = 1
  · subst h1
    rw [if_pos rfl]
    have HW : Hid (∀ w : World, Calls Tryz.prog 95 #[.string s] w fun e w' => e = .returned (.bool (nameB s)) ∧ Gr w w') := fun w => isWord_any s w hs
    go_enter Tryz.func71, Tryz.ntmps71
    go_wp2_with fail
    refine (HW.out _).mono ?_
    rintro e w2 ⟨rfl, hg⟩
    go_wp2
    go_ret
    exact ⟨rfl, (by repeat (first | exact Gr.refl _ | refine Gr.alloc ?_ | refine Gr.drew ?_ | refine Gr.trans ?_ (by assumption)))⟩
  rw [if_neg h1]
  have e1 : (k == 1) = false := by simpa using h1
  by_cases h2 : k = 2
  · subst h2
    rw [if_pos rfl]
    have HW : Hid (∀ w : World, Calls Tryz.prog 96 #[.string s] w fun e w' => e = .returned (.bool (numB s)) ∧ Gr w w') := fun w => isNumber_any s w hs
    go_enter Tryz.func71, Tryz.ntmps71
    go_wp2_with fail
    refine (HW.out _).mono ?_
    rintro e w2 ⟨rfl, hg⟩
    go_wp2
    go_ret
    exact ⟨rfl, (by repeat (first | exact Gr.refl _ | refine Gr.alloc ?_ | refine Gr.drew ?_ | refine Gr.trans ?_ (by assumption)))⟩
  rw [if_neg h2]
  have e2 : (k == 2) = false := by simpa using h2
  by_cases h3 : k = 3
  · subst h3
    rw [if_pos rfl]
    have a0 := text_eq s [123]
    have a1 := text_eq s [125]
    have a2 := text_eq s [59]
    rw [show (⟨[123].toArray⟩ : ByteArray) = ⟨#[123]⟩ from rfl] at a0
    rw [show (⟨[125].toArray⟩ : ByteArray) = ⟨#[125]⟩ from rfl] at a1
    rw [show (⟨[59].toArray⟩ : ByteArray) = ⟨#[59]⟩ from rfl] at a2
    have HE : Hid (sigB s = (decide (s = ⟨#[123]⟩) || decide (s = ⟨#[125]⟩) || decide (s = ⟨#[59]⟩))) := rfl
    generalize decide (s = ⟨#[123]⟩) = c0 at a0 HE
    generalize decide (s = ⟨#[125]⟩) = c1 at a1 HE
    generalize decide (s = ⟨#[59]⟩) = c2 at a2 HE
    rw [HE.out]
    cases c0 <;> cases c1 <;> cases c2
    all_goals
      go_enter Tryz.func71, Tryz.ntmps71
      go_wp2
      go_ret
      exact ⟨rfl, (by repeat (first | exact Gr.refl _ | refine Gr.alloc ?_ | refine Gr.drew ?_ | refine Gr.trans ?_ (by assumption)))⟩
  rw [if_neg h3]
  have e3 : (k == 3) = false := by simpa using h3
  go_enter Tryz.func71, Tryz.ntmps71
  go_wp2
  go_ret
  exact ⟨rfl, (by repeat (first | exact Gr.refl _ | refine Gr.alloc ?_ | refine Gr.drew ?_ | refine Gr.trans ?_ (by assumption)))⟩
theorem ext_pc (s : ByteArray) (k n : Nat) (h : n = Lex.tl (s.data.toList.drop k)) : s.extract k (k + n) = Lex.pc (s.data.toList.drop k) := by
  have e : (s.extract k (k + n)).data.toList = (s.data.toList.drop k).take n := by
    rw [Lib.extract_data]; simp
  have : ∀ (x y : ByteArray), x.data.toList = y.data.toList → x = y := by
    intro x y hxy
    cases x with
    | mk a => cases y with
      | mk b => simp at hxy; rw [hxy]
  apply this
  rw [e, Lex.pc_list, h]
theorem PO.box {b : Nat} {w w' : World} (h : PO b w w') {g : Nat} {x y z : Value} (hb : BoxAt w g x y z) (hne : g ≠ b) : BoxAt w' g x y z :=
  ⟨h.keep hb.lt hne hb.c0, h.keep hb.lt hne hb.c1, h.keep hb.lt hne hb.c2, h.keepF hb.lt hne hb.f0, h.keepF hb.lt hne hb.f1, h.keepF hb.lt hne hb.f2, Nat.lt_of_lt_of_le hb.lt h.size⟩
theorem PlAt.setFar {w : World} {b : Nat} {s : ByteArray} {k : Nat} (h : PlAt w b s k) (p : Addr) (v : Value) (hp : p.block ≠ b) : PlAt (w.setCell p v) b s k :=
  ⟨by rw [World.cell?_setCell_far _ _ _ _ (by simpa using hp)]; exact h.c0, by rw [World.cell?_setCell_far _ _ _ _ (by simpa using hp)]; exact h.c1, by rw [World.frozen?_setCell]; exact h.f1, by simpa using h.lt⟩
theorem BoxAt.set0 {w : World} {g : Nat} {a b c : Value} (h : BoxAt w g a b c) (u : Value) : BoxAt (w.setCell ⟨g, 0, none⟩ u) g u b c := by
  obtain ⟨c0, c1, c2, f0, f1, f2, lt⟩ := h
  exact ⟨by simp [go_sem, c0], by simp [go_sem, c1], by simp [go_sem, c2], by simp [go_sem, f0], by simp [go_sem, f1], by simp [go_sem, f2], by simpa using lt⟩
theorem BoxAt.set1 {w : World} {g : Nat} {a b c : Value} (h : BoxAt w g a b c) (u : Value) : BoxAt (w.setCell ⟨g, 1, none⟩ u) g a u c := by
  obtain ⟨c0, c1, c2, f0, f1, f2, lt⟩ := h
  exact ⟨by simp [go_sem, c0], by simp [go_sem, c1], by simp [go_sem, c2], by simp [go_sem, f0], by simp [go_sem, f1], by simp [go_sem, f2], by simpa using lt⟩
theorem BoxAt.setFar {w : World} {g : Nat} {a b c : Value} (h : BoxAt w g a b c) (p : Addr) (u : Value) (hp : p.block ≠ g) : BoxAt (w.setCell p u) g a b c := by
  obtain ⟨c0, c1, c2, f0, f1, f2, lt⟩ := h
  refine ⟨?_, ?_, ?_, ?_, ?_, ?_, by simpa using lt⟩
  · rw [World.cell?_setCell_far _ _ _ _ (by simpa using hp)]; exact c0
  · rw [World.cell?_setCell_far _ _ _ _ (by simpa using hp)]; exact c1
  · rw [World.cell?_setCell_far _ _ _ _ (by simpa using hp)]; exact c2
  · rw [World.frozen?_setCell]; exact f0
  · rw [World.frozen?_setCell]; exact f1
  · rw [World.frozen?_setCell]; exact f2
theorem PO.setNew {b : Nat} {a w : World} (h : PO b a w) (p : Addr) (v : Value) (hp : a.heap.size ≤ p.block) (hb : p.block ≠ b) : PO b a (w.setCell p v) :=
  ⟨⟨h.grown.os, h.grown.tape, h.grown.output, by simpa using h.size, fun i hi hne => (Below.heap_setCell _ _ _ _ (by omega)).trans (h.grown.block i hi hne)⟩,
    fun o ho hl => (World.cell?_setCell_far _ _ _ _ (by simpa using hb)).trans (h.cell o ho hl), fun o hl => by rw [World.frozen?_setCell]; exact h.froz o hl⟩
theorem PO.alloc {b : Nat} {a w : World} (h : PO b a w) {o : Obj} : PO b a (w.alloc o) := h.trans (PO.ofGr (Gr.refl _).alloc)
theorem PO.drew {b : Nat} {a w : World} (h : PO b a w) : PO b a w.drew := h.trans (PO.ofGr (Gr.refl _).drew)
theorem PO.refl (b : Nat) (w : World) : PO b w w := PO.ofGr (Gr.refl _)
set_option maxHeartbeats 4000000 in
set_option maxRecDepth 100000 in
theorem token_any (b : Nat) (s : ByteArray) (k : Nat) (w : World) (h : PlAt w b s k) (hk : k < s.size) (hs : s.size ≤ 2000) :
    Calls Tryz.prog 70 #[.pointer (some ⟨b, 0, none⟩)] w fun e w' => e = .returned (.agg #[.int .i64 (Lex.fk (s[k]'hk)), .string (Lex.pc (s.data.toList.drop k)), .int .i64 (k : Int)]) ∧ PlAt w' b s (k + Lex.tl (s.data.toList.drop k)) ∧ PO b w w' := by
  have HH : Hid (∀ (w' : World), PlAt w' b s k → Calls Tryz.prog 66 #[.pointer (some ⟨b, 0, none⟩)] w' fun e w2 => e = .returned (.int .u8 ((s[k]'hk).toNat : Int)) ∧ Gr w' w2) := fun w' g => here_any b s k w' g hk
  have HC : Hid (∀ w', Calls Tryz.prog 53 #[.string (Lex.pc (s.data.toList.drop k))] w' fun e w2 => e = .returned (.string (Lex.pc (s.data.toList.drop k))) ∧ Gr w' w2) := fun w' => clone_any _ w' (by rw [Lex.pc_size]; have := Lex.tl_le (s.data.toList.drop k); simp at this; omega)
  have HL : Hid (∀ (w : World), Calls Tryz.prog 91 #[.int .u8 ((s[k]'hk).toNat : Int)] w fun e w' => e = .returned (.bool (letB (s[k]'hk))) ∧ w' = w) := letter_any _
  have HD : Hid (∀ (w : World), Calls Tryz.prog 93 #[.int .u8 ((s[k]'hk).toNat : Int)] w fun e w' => e = .returned (.bool (digB (s[k]'hk))) ∧ w' = w) := digit_any _
  have hdr : s.data.toList.drop k = (s[k]'hk) :: s.data.toList.drop (k + 1) := Lex.drop_get s.data.toList k (by simpa using hk)
  have HT : Hid (PlAt w b s k) := h
  obtain ⟨h0, h1, f1, hl⟩ := h
  have hb1 : b ≠ w.heap.size := by omega
  have hb2 : b ≠ w.heap.size + 1 := by omega
  cases hlt : letB (s[k]'hk) with
  | true =>
    have HK : Hid (∀ (w' : World), PlAt w' b s k → Calls Tryz.prog 68 #[.pointer (some ⟨b, 0, none⟩), .func (.func 92) #[] #[]] w' fun e w2 => e = .returned (.string (Lex.pc (s.data.toList.drop k))) ∧ PlAt w2 b s (k + Lex.tl (s.data.toList.drop k)) ∧ PO b w' w2) := by
      intro w' g
      have := takeAllSgn b s k w' g (by omega) (by omega)
      have e : run sgnB (s.data.toList.drop k) = Lex.tl (s.data.toList.drop k) := by rw [hdr]; exact (Lex.tl_let _ hlt).symm
      rw [ext_pc s k _ e, e] at this
      exact this
    have HF : Hid (Lex.fk (s[k]'hk) = 1) := by show _ = _; unfold Lex.fk; rw [if_pos hlt]
    clear hdr
    go_enter Tryz.func70, Tryz.ntmps70
    go_wp2_with fail
    refine (HH.out _ (HT.out.gr (by repeat (first | exact Gr.refl _ | refine Gr.alloc ?_ | refine Gr.drew ?_ | refine Gr.trans ?_ (by assumption))))).mono ?_
    rintro e w1 ⟨rfl, hg1⟩
    have hx0 : BoxAt w1 w.heap.size (.int .i64 0) (.string ⟨#[]⟩) (.int .i64 0) := ((BoxAt.new w _ _ _ _ _ rfl).gr (Gr.refl _).alloc).gr hg1
    have hx1 : BoxAt w1 (w.heap.size + 1) (.int .i64 0) (.string ⟨#[]⟩) (.int .i64 (k : Int)) := (BoxAt.new _ _ _ _ _ _ (by simp)).gr hg1
    have HT1 : Hid (PlAt w1 b s k) := HT.out.gr (by repeat (first | exact Gr.refl _ | refine Gr.alloc ?_ | refine Gr.drew ?_ | refine Gr.trans ?_ (by assumption)))
    have HG1 : Hid (Gr w w1) := (by repeat (first | exact Gr.refl _ | refine Gr.alloc ?_ | refine Gr.drew ?_ | refine Gr.trans ?_ (by assumption)))
    clear hg1
    go_wp2_with fail
    refine (HL.out _).mono ?_
    rintro e w2 ⟨rfl, hw2⟩
    obtain rfl := hw2.symm
    rw [hlt]
    go_wp2_with fail
    refine (HK.out _ HT1.out).mono ?_
    rintro e w3 ⟨rfl, hp3, ho3⟩
    have HP3 : Hid (PlAt w3 b s (k + Lex.tl (s.data.toList.drop k))) := hp3
    have HG3 : Hid (PO b w w3) := (PO.ofGr HG1.out).trans ho3
    have HX0 : Hid (BoxAt w3 w.heap.size (.int .i64 0) (.string ⟨#[]⟩) (.int .i64 0)) := ho3.box hx0 (by omega)
    have HX1 : Hid (BoxAt w3 (w.heap.size + 1) (.int .i64 0) (.string ⟨#[]⟩) (.int .i64 (k : Int))) := ho3.box hx1 (by omega)
    obtain ⟨y0, y1, y2, g0, g1, g2, yl⟩ := HX1.out
    clear hx0 hx1 hp3 ho3
    go_wp2_with fail
    refine (HC.out _).mono ?_
    rintro e w4 ⟨rfl, hg4⟩
    have HX4 : Hid (BoxAt w4 w.heap.size (.int .i64 0) (.string ⟨#[]⟩) (.int .i64 0)) := (HX0.out.setFar _ _ (by simp)).gr hg4
    have HY4 : Hid (BoxAt w4 (w.heap.size + 1) (.int .i64 1) (.string ⟨#[]⟩) (.int .i64 (k : Int))) := (HX1.out.set0 _).gr hg4
    have HP4 : Hid (PlAt w4 b s (k + Lex.tl (s.data.toList.drop k))) := (HP3.out.setFar _ _ (by simp; omega)).gr hg4
    have HG4 : Hid (PO b w w4) := (HG3.out.setNew _ _ (by simp) (by simp; omega)).trans (PO.ofGr hg4)
    obtain ⟨x0, x1, x2, f00, f01, f02, xl⟩ := HX4.out
    obtain ⟨z0, z1, z2, k0, k1, k2, zl⟩ := HY4.out
    clear hg4 y0 y1 y2 g0 g1 g2 yl
    have hne : w.heap.size ≠ w.heap.size + 1 := by omega
    go_wp2
    rw [HF.out]
    refine bodyPost_ret (v := .agg #[.int .i64 1, .string (Lex.pc (s.data.toList.drop k)), .int .i64 (k : Int)]) (by simp [results, Tryz.results70, go_sem, x0, x1, x2]) rfl ⟨rfl, ?_, ?_⟩
    · exact (((HP4.out.setFar _ _ (by simp; omega)).setFar _ _ (by simp; omega)).setFar _ _ (by simp; omega)).setFar _ _ (by simp; omega)
    · exact (((HG4.out.setNew _ _ (by simp) (by simp; omega)).setNew _ _ (by simp) (by simp; omega)).setNew _ _ (by simp) (by simp; omega)).setNew _ _ (by simp) (by simp; omega)
  | false =>
    cases hdg : digB (s[k]'hk) with
    | true =>
      have HK : Hid (∀ (w' : World), PlAt w' b s k → Calls Tryz.prog 68 #[.pointer (some ⟨b, 0, none⟩), .func (.func 93) #[] #[]] w' fun e w2 => e = .returned (.string (Lex.pc (s.data.toList.drop k))) ∧ PlAt w2 b s (k + Lex.tl (s.data.toList.drop k)) ∧ PO b w' w2) := by
        intro w' g
        have := takeAllDig b s k w' g (by omega) (by omega)
        have e : run digB (s.data.toList.drop k) = Lex.tl (s.data.toList.drop k) := by rw [hdr]; exact (Lex.tl_dig _ hlt hdg).symm
        rw [ext_pc s k _ e, e] at this
        exact this
      have HF : Hid (Lex.fk (s[k]'hk) = 2) := by show _ = _; unfold Lex.fk; rw [if_neg (by rw [hlt]; simp), if_pos hdg]
      clear hdr
      go_enter Tryz.func70, Tryz.ntmps70
      go_wp2_with fail
      refine (HH.out _ (HT.out.gr (by repeat (first | exact Gr.refl _ | refine Gr.alloc ?_ | refine Gr.drew ?_ | refine Gr.trans ?_ (by assumption))))).mono ?_
      rintro e w1 ⟨rfl, hg1⟩
      have hx0 : BoxAt w1 w.heap.size (.int .i64 0) (.string ⟨#[]⟩) (.int .i64 0) := ((BoxAt.new w _ _ _ _ _ rfl).gr (Gr.refl _).alloc).gr hg1
      have hx1 : BoxAt w1 (w.heap.size + 1) (.int .i64 0) (.string ⟨#[]⟩) (.int .i64 (k : Int)) := (BoxAt.new _ _ _ _ _ _ (by simp)).gr hg1
      have HT1 : Hid (PlAt w1 b s k) := HT.out.gr (by repeat (first | exact Gr.refl _ | refine Gr.alloc ?_ | refine Gr.drew ?_ | refine Gr.trans ?_ (by assumption)))
      have HG1 : Hid (Gr w w1) := (by repeat (first | exact Gr.refl _ | refine Gr.alloc ?_ | refine Gr.drew ?_ | refine Gr.trans ?_ (by assumption)))
      clear hg1
      go_wp2_with fail
      refine (HL.out _).mono ?_
      rintro e w2 ⟨rfl, hw2⟩
      obtain rfl := hw2.symm
      rw [hlt]
      go_wp2_with fail
      refine (HD.out _).mono ?_
      rintro e w2 ⟨rfl, hw2⟩
      obtain rfl := hw2.symm
      rw [hdg]
      go_wp2_with fail
      refine (HK.out _ HT1.out).mono ?_
      rintro e w3 ⟨rfl, hp3, ho3⟩
      have HP3 : Hid (PlAt w3 b s (k + Lex.tl (s.data.toList.drop k))) := hp3
      have HG3 : Hid (PO b w w3) := (PO.ofGr HG1.out).trans ho3
      have HX0 : Hid (BoxAt w3 w.heap.size (.int .i64 0) (.string ⟨#[]⟩) (.int .i64 0)) := ho3.box hx0 (by omega)
      have HX1 : Hid (BoxAt w3 (w.heap.size + 1) (.int .i64 0) (.string ⟨#[]⟩) (.int .i64 (k : Int))) := ho3.box hx1 (by omega)
      obtain ⟨y0, y1, y2, g0, g1, g2, yl⟩ := HX1.out
      clear hx0 hx1 hp3 ho3
      go_wp2_with fail
      refine (HC.out _).mono ?_
      rintro e w4 ⟨rfl, hg4⟩
      have HX4 : Hid (BoxAt w4 w.heap.size (.int .i64 0) (.string ⟨#[]⟩) (.int .i64 0)) := (HX0.out.setFar _ _ (by simp)).gr hg4
      have HY4 : Hid (BoxAt w4 (w.heap.size + 1) (.int .i64 2) (.string ⟨#[]⟩) (.int .i64 (k : Int))) := (HX1.out.set0 _).gr hg4
      have HP4 : Hid (PlAt w4 b s (k + Lex.tl (s.data.toList.drop k))) := (HP3.out.setFar _ _ (by simp; omega)).gr hg4
      have HG4 : Hid (PO b w w4) := (HG3.out.setNew _ _ (by simp) (by simp; omega)).trans (PO.ofGr hg4)
      obtain ⟨x0, x1, x2, f00, f01, f02, xl⟩ := HX4.out
      obtain ⟨z0, z1, z2, k0, k1, k2, zl⟩ := HY4.out
      clear hg4 y0 y1 y2 g0 g1 g2 yl
      have hne : w.heap.size ≠ w.heap.size + 1 := by omega
      go_wp2
      rw [HF.out]
      refine bodyPost_ret (v := .agg #[.int .i64 2, .string (Lex.pc (s.data.toList.drop k)), .int .i64 (k : Int)]) (by simp [results, Tryz.results70, go_sem, x0, x1, x2]) rfl ⟨rfl, ?_, ?_⟩
      · exact (((HP4.out.setFar _ _ (by simp; omega)).setFar _ _ (by simp; omega)).setFar _ _ (by simp; omega)).setFar _ _ (by simp; omega)
      · exact (((HG4.out.setNew _ _ (by simp) (by simp; omega)).setNew _ _ (by simp) (by simp; omega)).setNew _ _ (by simp) (by simp; omega)).setNew _ _ (by simp) (by simp; omega)
    | false =>
      have HK : Hid (∀ (w' : World), PlAt w' b s k → Calls Tryz.prog 94 #[.pointer (some ⟨b, 0, none⟩)] w' fun e w2 => e = .returned (.string (Lex.pc (s.data.toList.drop k))) ∧ PlAt w2 b s (k + Lex.tl (s.data.toList.drop k)) ∧ PO b w' w2) := by
        intro w' g
        have := take_any b s k w' g hk (by omega)
        have e : 1 = Lex.tl (s.data.toList.drop k) := by rw [hdr]; exact (Lex.tl_one _ hlt hdg).symm
        rw [ext_pc s k _ e, e] at this
        exact this
      have HF : Hid (Lex.fk (s[k]'hk) = 3) := by show _ = _; unfold Lex.fk; rw [if_neg (by rw [hlt]; simp), if_neg (by rw [hdg]; simp)]
      clear hdr
      go_enter Tryz.func70, Tryz.ntmps70
      go_wp2_with fail
      refine (HH.out _ (HT.out.gr (by repeat (first | exact Gr.refl _ | refine Gr.alloc ?_ | refine Gr.drew ?_ | refine Gr.trans ?_ (by assumption))))).mono ?_
      rintro e w1 ⟨rfl, hg1⟩
      have hx0 : BoxAt w1 w.heap.size (.int .i64 0) (.string ⟨#[]⟩) (.int .i64 0) := ((BoxAt.new w _ _ _ _ _ rfl).gr (Gr.refl _).alloc).gr hg1
      have hx1 : BoxAt w1 (w.heap.size + 1) (.int .i64 0) (.string ⟨#[]⟩) (.int .i64 (k : Int)) := (BoxAt.new _ _ _ _ _ _ (by simp)).gr hg1
      have HT1 : Hid (PlAt w1 b s k) := HT.out.gr (by repeat (first | exact Gr.refl _ | refine Gr.alloc ?_ | refine Gr.drew ?_ | refine Gr.trans ?_ (by assumption)))
      have HG1 : Hid (Gr w w1) := (by repeat (first | exact Gr.refl _ | refine Gr.alloc ?_ | refine Gr.drew ?_ | refine Gr.trans ?_ (by assumption)))
      clear hg1
      go_wp2_with fail
      refine (HL.out _).mono ?_
      rintro e w2 ⟨rfl, hw2⟩
      obtain rfl := hw2.symm
      rw [hlt]
      go_wp2_with fail
      refine (HD.out _).mono ?_
      rintro e w2 ⟨rfl, hw2⟩
      obtain rfl := hw2.symm
      rw [hdg]
      go_wp2_with fail
      refine (HK.out _ HT1.out).mono ?_
      rintro e w3 ⟨rfl, hp3, ho3⟩
      have HP3 : Hid (PlAt w3 b s (k + Lex.tl (s.data.toList.drop k))) := hp3
      have HG3 : Hid (PO b w w3) := (PO.ofGr HG1.out).trans ho3
      have HX0 : Hid (BoxAt w3 w.heap.size (.int .i64 0) (.string ⟨#[]⟩) (.int .i64 0)) := ho3.box hx0 (by omega)
      have HX1 : Hid (BoxAt w3 (w.heap.size + 1) (.int .i64 0) (.string ⟨#[]⟩) (.int .i64 (k : Int))) := ho3.box hx1 (by omega)
      obtain ⟨y0, y1, y2, g0, g1, g2, yl⟩ := HX1.out
      clear hx0 hx1 hp3 ho3
      go_wp2_with fail
      refine (HC.out _).mono ?_
      rintro e w4 ⟨rfl, hg4⟩
      have HX4 : Hid (BoxAt w4 w.heap.size (.int .i64 0) (.string ⟨#[]⟩) (.int .i64 0)) := (HX0.out.setFar _ _ (by simp)).gr hg4
      have HY4 : Hid (BoxAt w4 (w.heap.size + 1) (.int .i64 3) (.string ⟨#[]⟩) (.int .i64 (k : Int))) := (HX1.out.set0 _).gr hg4
      have HP4 : Hid (PlAt w4 b s (k + Lex.tl (s.data.toList.drop k))) := (HP3.out.setFar _ _ (by simp; omega)).gr hg4
      have HG4 : Hid (PO b w w4) := (HG3.out.setNew _ _ (by simp) (by simp; omega)).trans (PO.ofGr hg4)
      obtain ⟨x0, x1, x2, f00, f01, f02, xl⟩ := HX4.out
      obtain ⟨z0, z1, z2, k0, k1, k2, zl⟩ := HY4.out
      clear hg4 y0 y1 y2 g0 g1 g2 yl
      have hne : w.heap.size ≠ w.heap.size + 1 := by omega
      go_wp2
      rw [HF.out]
      refine bodyPost_ret (v := .agg #[.int .i64 3, .string (Lex.pc (s.data.toList.drop k)), .int .i64 (k : Int)]) (by simp [results, Tryz.results70, go_sem, x0, x1, x2]) rfl ⟨rfl, ?_, ?_⟩
      · exact (((HP4.out.setFar _ _ (by simp; omega)).setFar _ _ (by simp; omega)).setFar _ _ (by simp; omega)).setFar _ _ (by simp; omega)
      · exact (((HG4.out.setNew _ _ (by simp) (by simp; omega)).setNew _ _ (by simp) (by simp; omega)).setNew _ _ (by simp) (by simp; omega)).setNew _ _ (by simp) (by simp; omega)
end Go.Proofs.YtfobfpigbfepoaaGreatDoor
namespace Go.Proofs.YtfobfpigbfepoaaGreatDoor
open Go.RowKit Go.Maps
open Lex (Tok)
open Df (Stp St tk)
def stpC (x : Stp) : List Value := [.int .i64 x.k, .string x.a, .int .i64 x.n, .int .i64 x.o, .string x.u, .int .i64 x.y, .int .i64 x.v]
theorem stpC_len (x : Stp) : (stpC x).length = 7 := rfl
abbrev StpsAt := RowAt stpC
theorem stp_one (L : List Stp) : ∀ u ∈ L.flatMap stpC, u.oneCell' = true := by
  intro u hu
  rw [List.mem_flatMap] at hu
  obtain ⟨h, _, hu⟩ := hu
  simp [stpC] at hu
  rcases hu with rfl | rfl | rfl | rfl | rfl | rfl | rfl <;> rfl
theorem StpsAt.at {w : World} {ad : Option Addr} {L : List Stp} (h : StpsAt w ad L) (k : Nat) (hk : k < L.length) : ∃ b off, ad = some ⟨b, off, none⟩ ∧ b < w.heap.size ∧
    w.cell? ⟨b, off + k * 7, none⟩ = some (.int .i64 L[k].k) ∧ w.cell? ⟨b, off + k * 7 + 1, none⟩ = some (.string L[k].a) ∧ w.cell? ⟨b, off + k * 7 + 2, none⟩ = some (.int .i64 L[k].n) ∧ w.cell? ⟨b, off + k * 7 + 3, none⟩ = some (.int .i64 L[k].o) ∧
    w.cell? ⟨b, off + k * 7 + 4, none⟩ = some (.string L[k].u) ∧ w.cell? ⟨b, off + k * 7 + 5, none⟩ = some (.int .i64 L[k].y) ∧ w.cell? ⟨b, off + k * 7 + 6, none⟩ = some (.int .i64 L[k].v) := by
  have g := fun i hi => flat_get stpC_len L k hk i hi
  obtain ⟨b, off, rfl, hb, c0⟩ := h _ _ (g 0 (by omega))
  obtain ⟨_, _, e, _, c1⟩ := h _ _ (g 1 (by omega)); cases e
  obtain ⟨_, _, e, _, c2⟩ := h _ _ (g 2 (by omega)); cases e
  obtain ⟨_, _, e, _, c3⟩ := h _ _ (g 3 (by omega)); cases e
  obtain ⟨_, _, e, _, c4⟩ := h _ _ (g 4 (by omega)); cases e
  obtain ⟨_, _, e, _, c5⟩ := h _ _ (g 5 (by omega)); cases e
  obtain ⟨_, _, e, _, c6⟩ := h _ _ (g 6 (by omega)); cases e
  rw [← Nat.add_assoc] at c1 c2 c3 c4 c5 c6
  exact ⟨b, off, rfl, hb, c0, c1, c2, c3, c4, c5, c6⟩
theorem infoStp : (Tryz.prog.info? 78).map (fun i => (i.zero, i.size, i.bytes)) = some (some (.agg #[.int .i64 0, .string ⟨#[]⟩, .int .i64 0, .int .i64 0, .string ⟨#[]⟩, .int .i64 0, .int .i64 0]), 7, 72) := by kernel_rfl
structure GB (b : Nat) (w w' : World) : Prop where
  g : w.grownBy w' (some b)
theorem GB.ofGr {b : Nat} {w w' : World} (g : Gr w w') : GB b w w' := ⟨⟨g.below.os, g.below.tape, g.below.output, g.size, fun k hk _ => g.below.block k hk⟩⟩
theorem GB.refl (b : Nat) (w : World) : GB b w w := GB.ofGr (Gr.refl _)
theorem GB.size {b : Nat} {w w' : World} (h : GB b w w') : w.heap.size ≤ w'.heap.size := h.g.size
theorem GB.trans {b : Nat} {u v w : World} (h : GB b u v) (k : GB b v w) : GB b u w := by
  have hs := h.size
  refine ⟨⟨?_, ?_, ?_, Nat.le_trans h.size k.size, ?_⟩⟩
  · exact k.g.os.trans h.g.os
  · exact k.g.tape.trans h.g.tape
  · exact k.g.output.trans h.g.output
  · intro i hi hne
    exact (k.g.block i (by omega) hne).trans (h.g.block i hi hne)
theorem GB.alloc {b : Nat} {a w : World} (h : GB b a w) {o : Obj} : GB b a (w.alloc o) := h.trans (GB.ofGr (Gr.refl _).alloc)
theorem GB.drew {b : Nat} {a w : World} (h : GB b a w) : GB b a w.drew := h.trans (GB.ofGr (Gr.refl _).drew)
theorem GB.gr {b : Nat} {a w w' : World} (h : GB b a w) (g : Gr w w') : GB b a w' := h.trans (GB.ofGr g)
theorem GB.setNew {b : Nat} {a w : World} (h : GB b a w) (p : Addr) (v : Value) (hp : a.heap.size ≤ p.block ∨ p.block = b) : GB b a (w.setCell p v) :=
  ⟨⟨h.g.os, h.g.tape, h.g.output, by simpa [World.setCell] using h.size, fun k hk hne => (Below.heap_setCell _ _ _ _ (fun e => by
    rcases hp with hp | hp
    · omega
    · exact hne (by rw [e, hp]))).trans (h.g.block k hk hne)⟩⟩
theorem GB.keep {b : Nat} {w w' : World} (h : GB b w w') {g o : Nat} {v : Value} (hg : g < w.heap.size) (hne : g ≠ b) (hc : w.cell? ⟨g, o, none⟩ = some v) : w'.cell? ⟨g, o, none⟩ = some v := by
  rw [← hc]; exact World.cell?_of_block (w := w) (h.g.block g hg (by simp; omega))
theorem GB.keepF {b : Nat} {w w' : World} (h : GB b w w') {g o : Nat} {v : Bool} (hg : g < w.heap.size) (hne : g ≠ b) (hc : w.frozen? ⟨g, o, none⟩ = v) : w'.frozen? ⟨g, o, none⟩ = v := by
  rw [← hc]; exact World.frozen?_of_block (w := w) (h.g.block g hg (by simp; omega))
theorem Gr.gb {b : Nat} {a w w' : World} (g : Gr a w) (h : GB b w w') (hb : a.heap.size ≤ b) : Gr a w' := ⟨g.below.grown h.g g.size (fun k e => by cases e; exact hb)⟩
def ks (s : ByteArray) : Lit := .string s.data.toList
def kD : DataW Unit := ((((DataW.map []).put (ks Df.wDebit) (.lit (.int .i64 1))).put (ks Df.wCredit) (.lit (.int .i64 2))).put (ks Df.wReserve) (.lit (.int .i64 3))).put (ks Df.wRelease) (.lit (.int .i64 4))
def MapK (w : World) (m : Nat) : Prop := w.ownsMap Tryz.prog 9 (plainElem (H := Unit) Tryz.prog 3) m 4 kD
theorem ks_inj {s t : ByteArray} (h : ks s = ks t) : s = t := Lex.list_bytes (by unfold ks at h; exact Lit.string.inj h)
theorem ks_key (s : ByteArray) : WideAt.IsKeyLit (ks s) := trivial
theorem kD_at (s : ByteArray) (z : DataW Unit) : kD.atKey (ks s) z = if Df.kw s = 0 then z else .lit (.int .i64 (Df.kw s)) := by
  unfold kD Df.kw
  by_cases h4 : s = Df.wRelease
  · subst h4
    rw [atKey_put_same (isMap_empty.put _ _ |>.put _ _ |>.put _ _) (ks_key _)]; rfl
  · rw [atKey_put_other (fun e => h4 (ks_inj e))]
    by_cases h3 : s = Df.wReserve
    · subst h3
      rw [atKey_put_same (isMap_empty.put _ _ |>.put _ _) (ks_key _)]; rfl
    · rw [atKey_put_other (fun e => h3 (ks_inj e))]
      by_cases h2 : s = Df.wCredit
      · subst h2
        rw [atKey_put_same (isMap_empty.put _ _) (ks_key _)]; rfl
      · rw [atKey_put_other (fun e => h2 (ks_inj e))]
        by_cases h1 : s = Df.wDebit
        · subst h1
          rw [atKey_put_same isMap_empty (ks_key _)]; rfl
        · rw [atKey_put_other (fun e => h1 (ks_inj e))]
          rw [if_neg h1, if_neg h2, if_neg h3, if_neg h4, if_pos rfl]; rfl
theorem kD_has (s : ByteArray) : Maps.has kD (ks s) = decide (Df.kw s ≠ 0) := by
  by_cases h : Df.kw s = 0
  · rw [decide_eq_false (fun e => e h)]
    exact has_false_of_atKey (fun z => by rw [kD_at, if_pos h])
  · rw [decide_eq_true h]
    exact has_true_of_atKey (y := .lit (.int .i64 (Df.kw s))) (fun z => by rw [kD_at, if_neg h])
theorem MapK.gr {w w' : World} {m : Nat} (h : MapK w m) (g : Gr w w') : MapK w' m := World.ownsMap.kept h (row := none) ⟨g.below.os, g.below.tape, g.below.output, g.size, fun k hk _ => g.below.block k hk⟩ (by simp)
theorem MapK.set {w : World} {m : Nat} (h : MapK w m) (p : Addr) (v : Value) (hp : p.block ≠ m) : MapK (w.setCell p v) m := World.ownsMap.setCell h (fun e => hp e.symm) v
theorem MapK.lt {w : World} {m : Nat} (h : MapK w m) : m < w.heap.size := World.ownsMap.lt h
structure Rd (w : World) (b m : Nat) (ad : Option Addr) (T : List Tok) (cap : Nat) (q : St) : Prop where
  c0 : w.cell? ⟨b, 0, none⟩ = some (.slice ad T.length cap)
  c1 : w.cell? ⟨b, 1, none⟩ = some (.int .i64 (q.i : Int))
  c2 : w.cell? ⟨b, 2, none⟩ = some (.bool q.s)
  c3 : w.cell? ⟨b, 3, none⟩ = some (.map (some m))
  f1 : w.frozen? ⟨b, 1, none⟩ = false
  f2 : w.frozen? ⟨b, 2, none⟩ = false
  lt : b < w.heap.size
  ts : ToksAt w ad T
  na : ∀ a, ad = some a → a.block ≠ b ∧ a.block < w.heap.size
  mp : MapK w m
  nm : m ≠ b
theorem Rd.gr {w w' : World} {b m : Nat} {ad : Option Addr} {T : List Tok} {cap : Nat} {q : St} (h : Rd w b m ad T cap q) (g : Gr w w') : Rd w' b m ad T cap q :=
  ⟨g.keep h.c0, g.keep h.c1, g.keep h.c2, g.keep h.c3, g.keepF h.lt h.f1, g.keepF h.lt h.f2, Nat.lt_of_lt_of_le h.lt g.size, h.ts.gr g, fun a e => ⟨(h.na a e).1, Nat.lt_of_lt_of_le (h.na a e).2 g.size⟩, h.mp.gr g, h.nm⟩
theorem Rd.set1 {w : World} {b m : Nat} {ad : Option Addr} {T : List Tok} {cap : Nat} {q : St} (h : Rd w b m ad T cap q) (i : Nat) : Rd (w.setCell ⟨b, 1, none⟩ (.int .i64 (i : Int))) b m ad T cap ⟨i, q.s⟩ := by
  obtain ⟨c0, c1, c2, c3, f1, f2, lt, ts, na, mp, nm⟩ := h
  exact ⟨by simp [go_sem, *], by simp [go_sem, *], by simp [go_sem, *], by simp [go_sem, *], by simp [go_sem, *], by simp [go_sem, *], by simpa using lt, ts.setFar _ _ (fun a e => (na a e).1.symm), fun a e => ⟨(na a e).1, by simpa using (na a e).2⟩, mp.set _ _ nm.symm, nm⟩
theorem Rd.set2 {w : World} {b m : Nat} {ad : Option Addr} {T : List Tok} {cap : Nat} {q : St} (h : Rd w b m ad T cap q) (s : Bool) : Rd (w.setCell ⟨b, 2, none⟩ (.bool s)) b m ad T cap ⟨q.i, s⟩ := by
  obtain ⟨c0, c1, c2, c3, f1, f2, lt, ts, na, mp, nm⟩ := h
  exact ⟨by simp [go_sem, *], by simp [go_sem, *], by simp [go_sem, *], by simp [go_sem, *], by simp [go_sem, *], by simp [go_sem, *], by simpa using lt, ts.setFar _ _ (fun a e => (na a e).1.symm), fun a e => ⟨(na a e).1, by simpa using (na a e).2⟩, mp.set _ _ nm.symm, nm⟩
theorem Rd.setFar {w : World} {b m : Nat} {ad : Option Addr} {T : List Tok} {cap : Nat} {q : St} (h : Rd w b m ad T cap q) (p : Addr) (v : Value) (hb : p.block ≠ b) (hm : p.block ≠ m) (ha : ∀ a, ad = some a → p.block ≠ a.block) : Rd (w.setCell p v) b m ad T cap q := by
  have key : ∀ o, (w.setCell p v).cell? ⟨b, o, none⟩ = w.cell? ⟨b, o, none⟩ := fun o => World.cell?_setCell_far _ _ _ _ (by simpa using hb)
  have keyF : ∀ o, (w.setCell p v).frozen? ⟨b, o, none⟩ = w.frozen? ⟨b, o, none⟩ := fun o => World.frozen?_setCell _ _ _ _
  exact ⟨(key 0).trans h.c0, (key 1).trans h.c1, (key 2).trans h.c2, (key 3).trans h.c3, (keyF 1).trans h.f1, (keyF 2).trans h.f2, by simpa using h.lt, h.ts.setFar _ _ ha, fun a e => ⟨(h.na a e).1, by simpa using (h.na a e).2⟩, h.mp.set _ _ hm, h.nm⟩
theorem Rd.setTop {w : World} {b m : Nat} {ad : Option Addr} {T : List Tok} {cap : Nat} {q q0 : St} {w0 : World} (h : Rd w b m ad T cap q) (h0 : Rd w0 b m ad T cap q0) (p : Addr) (v : Value) (hp : w0.heap.size ≤ p.block) : Rd (w.setCell p v) b m ad T cap q :=
  h.setFar p v (by have := h0.lt; omega) (by have := h0.mp.lt; omega) (fun a e => by have := (h0.na a e).2; omega)
end Go.Proofs.YtfobfpigbfepoaaGreatDoor
namespace Go.Proofs.YtfobfpigbfepoaaGreatDoor
open Go.RowKit
open Df (Stp)
structure Dm where
  nm : ByteArray
  ad : Option Addr
  cap : Nat
  L : List Stp
def dmC (x : Dm) : List Value := [.string x.nm, .slice x.ad x.L.length x.cap]
theorem dmC_len (x : Dm) : (dmC x).length = 2 := rfl
abbrev DmsAt := RowAt dmC
def Dm.dn (x : Dm) : Bk.Dn := ⟨x.nm, x.L⟩
def dns (D : List Dm) : List Bk.Dn := D.map Dm.dn
theorem dns_len (D : List Dm) : (dns D).length = D.length := by simp [dns]
theorem dns_get (D : List Dm) (j : Nat) (h : j < D.length) : (dns D)[j]'(by rw [dns_len]; exact h) = D[j].dn := by simp [dns]
def nmD (D : List Dm) : List ByteArray := D.map Dm.nm
theorem nmD_len (D : List Dm) : (nmD D).length = D.length := by simp [nmD]
theorem nmD_get (D : List Dm) (j : Nat) (h : j < D.length) : (nmD D)[j]'(by rw [nmD_len]; exact h) = D[j].nm := by simp [nmD]
theorem nmD_eq (D : List Dm) : nmD D = Bk.nms (dns D) := by simp [nmD, Bk.nms, dns, Dm.dn]
theorem dm_one (D : List Dm) : ∀ u ∈ D.flatMap dmC, u.oneCell' = true := by
  intro u hu
  rw [List.mem_flatMap] at hu
  obtain ⟨h, _, hu⟩ := hu
  simp [dmC] at hu
  rcases hu with rfl | rfl <;> rfl
theorem DmsAt.at {w : World} {ad : Option Addr} {D : List Dm} (h : DmsAt w ad D) (k : Nat) (hk : k < D.length) : ∃ b off, ad = some ⟨b, off, none⟩ ∧ b < w.heap.size ∧
    w.cell? ⟨b, off + k * 2, none⟩ = some (.string D[k].nm) ∧ w.cell? ⟨b, off + k * 2 + 1, none⟩ = some (.slice D[k].ad D[k].L.length D[k].cap) := by
  have g := fun i hi => flat_get dmC_len D k hk i hi
  obtain ⟨b, off, rfl, hb, c0⟩ := h _ _ (g 0 (by omega))
  obtain ⟨_, _, e, _, c1⟩ := h _ _ (g 1 (by omega)); cases e
  rw [← Nat.add_assoc] at c1
  exact ⟨b, off, rfl, hb, c0, c1⟩
theorem infoDef : (Tryz.prog.info? 38).map (fun i => (i.zero, i.size, i.bytes)) = some (some (.agg #[.string ⟨#[]⟩, .slice none 0 0]), 2, 40) := by kernel_rfl
def inD (x : Dm) : Prop := x.nm.size ≤ 9223372036854775807 ∧ x.L.length ≤ 9223372036854775807 ∧ ∀ s ∈ x.L, (s.a.size ≤ 9223372036854775807 ∧ s.u.size ≤ 9223372036854775807 ∧ (-9223372036854775808 ≤ s.k ∧ s.k ≤ 9223372036854775807) ∧ (-9223372036854775808 ≤ s.n ∧ s.n ≤ 9223372036854775807) ∧ (-9223372036854775808 ≤ s.o ∧ s.o ≤ 9223372036854775807) ∧ (-9223372036854775808 ≤ s.y ∧ s.y ≤ 9223372036854775807) ∧ (-9223372036854775808 ≤ s.v ∧ s.v ≤ 9223372036854775807))
structure BkAt (w : World) (ad : Option Addr) (D : List Dm) : Prop where
  row : DmsAt w ad D
  st : ∀ d ∈ D, StpsAt w d.ad d.L
  rng : ∀ d ∈ D, inD d
theorem BkAt.gr {w w' : World} {ad : Option Addr} {D : List Dm} (h : BkAt w ad D) (g : Gr w w') : BkAt w' ad D := ⟨h.row.gr g, fun d hd => (h.st d hd).gr g, h.rng⟩
theorem BkAt.nil {w : World} {ad : Option Addr} : BkAt w ad [] := ⟨RowAt.nil, by simp, by simp⟩
theorem own_gr2 {w w' : World} {base : Nat} {e : TypeId} {size n : Nat} {v : Value} {xs : List Value} (h : w.ownsRow base e size v n xs) (g : Gr w w') : w'.ownsRow base e size v n xs := h.kept g.grownBy (own_or v)
theorem own_form {w : World} {base : Nat} {e : TypeId} {size n : Nat} {v : Value} {xs : List Value} (h : w.ownsRow base e size v n xs) (hn : 0 < n) : ∃ g cap, v = .slice (some ⟨g, 0, none⟩) n cap ∧ base ≤ g ∧ g < w.heap.size ∧ n ≤ cap ∧ cap ≤ 9223372036854775807 := by
  have hlt := h.lt
  obtain ⟨_, ⟨rfl, h0⟩ | ⟨g, cap, cur, rfl, hx⟩⟩ := h
  · omega
  · have hm : cap ≤ 9223372036854775807 := by have := hx.2.2.2.1; unfold maxLen at this; omega
    exact ⟨g, cap, rfl, (hlt g rfl).1, (hlt g rfl).2, hx.2.2.1, hm⟩
theorem own_apart {w : World} {base base' : Nat} {e e' : TypeId} {size size' n n' : Nat} {v v' : Value} {xs xs' : List Value} (h : w.ownsRow base e size v n xs) (h' : w.ownsRow base' e' size' v' n' xs') (he : e ≠ e') {g : Nat} (hg : v.ownBlock = some g) : v'.ownBlock ≠ some g := by
  intro hg'
  obtain ⟨_, ⟨rfl, _⟩ | ⟨g1, cap1, cur1, rfl, _, hh1, _⟩⟩ := h
  · simp [Value.ownBlock] at hg
  · obtain ⟨_, ⟨rfl, _⟩ | ⟨g2, cap2, cur2, rfl, _, hh2, _⟩⟩ := h'
    · simp [Value.ownBlock] at hg'
    · simp [Value.ownBlock] at hg hg'
      subst hg hg'
      rw [hh1] at hh2
      cases hh2
      exact he rfl
theorem own_same {w : World} {base : Nat} {e : TypeId} {size n cap g : Nat} {xs : List Value} (h : w.ownsRow base e size (.slice (some ⟨g, 0, none⟩) n cap) n xs) (j : Nat) (u : Value) (hu : xs[j]? = some u) : (w.setCell ⟨g, j, none⟩ u).ownsRow base e size (.slice (some ⟨g, 0, none⟩) n cap) n xs := by
  have := (h.stored j u).1
  have e : xs.set j u = xs := by
    obtain ⟨hj, hv⟩ := List.getElem?_eq_some_iff.1 hu
    rw [← hv]; exact List.set_getElem_self hj
  rwa [e] at this
theorem own_far {w : World} {base : Nat} {e : TypeId} {size n : Nat} {v : Value} {xs : List Value} (h : w.ownsRow base e size v n xs) (p : Addr) (u : Value) (hp : v.ownBlock ≠ some p.block) : (w.setCell p u).ownsRow base e size v n xs :=
  h.kept (row := some p.block) ⟨rfl, rfl, rfl, by simp [World.setCell], fun k _ hk => Below.heap_setCell _ _ _ _ (fun e => hk (by rw [e]))⟩ (Or.inr hp)
theorem own_kept {w w' : World} {base : Nat} {e : TypeId} {size n : Nat} {v : Value} {xs : List Value} (h : w.ownsRow base e size v n xs) {r : Nat} (g : w.grownBy w' (some r)) (hr : r < base ∨ ∃ o : Obj, w.heap[r]? = some o ∧ o.isCells = false) : w'.ownsRow base e size v n xs := by
  refine h.kept g (Or.inr (fun e => ?_))
  rcases hr with hr | ⟨o, ho, hc⟩
  · have := (h.lt r e).1; omega
  · obtain ⟨_, ⟨rfl, _⟩ | ⟨b, cap, cur, rfl, _, hh, _⟩⟩ := h
    · simp [Value.ownBlock] at e
    · simp [Value.ownBlock] at e; subst e
      rw [ho] at hh; cases hh; cases hc
structure Book (w : World) (base : Nat) (v : Value) (D : List Dm) : Prop where
  own : w.ownsRow base 38 2 v D.length (D.flatMap dmC)
  ow : ∀ d ∈ D, w.ownsRow base 78 7 (.slice d.ad d.L.length d.cap) d.L.length (d.L.flatMap stpC)
  rng : ∀ d ∈ D, inD d
theorem own_steps {w : World} {base : Nat} {ad : Option Addr} {cap : Nat} {L : List Stp} (h : w.ownsRow base 78 7 (.slice ad L.length cap) L.length (L.flatMap stpC)) : StpsAt w ad L ∧ (∀ a, ad = some a → base ≤ a.block) := by
  obtain ⟨ad', cap', e, _, _, h3, h4, _⟩ := own_row h
  cases e
  exact ⟨h3, h4⟩
theorem Book.nil (w : World) (base : Nat) : Book w base (.slice none 0 0) [] := ⟨World.ownsRow_nil _ _ _ _, by simp, by simp⟩
theorem Book.at {w : World} {base : Nat} {v : Value} {D : List Dm} (h : Book w base v D) : ∃ ad cap, v = .slice ad D.length cap ∧ D.length ≤ cap ∧ cap ≤ 9223372036854775807 ∧ BkAt w ad D ∧ (∀ a, ad = some a → base ≤ a.block) := by
  obtain ⟨ad, cap, e, h1, h2, h3, h4, _⟩ := own_row h.own
  exact ⟨ad, cap, e, h1, h2, ⟨h3, fun d hd => (own_steps (h.ow d hd)).1, h.rng⟩, h4⟩
theorem Book.gr {w w' : World} {base : Nat} {v : Value} {D : List Dm} (h : Book w base v D) (g : Gr w w') : Book w' base v D := ⟨own_gr2 h.own g, fun d hd => own_gr2 (h.ow d hd) g, h.rng⟩
theorem Book.kept {w w' : World} {base r : Nat} {v : Value} {D : List Dm} (h : Book w base v D) (g : w.grownBy w' (some r)) (hr : r < base ∨ ∃ o : Obj, w.heap[r]? = some o ∧ o.isCells = false) : Book w' base v D := ⟨own_kept h.own g hr, fun d hd => own_kept (h.ow d hd) g hr, h.rng⟩
theorem Book.low {w : World} {base base' : Nat} {v : Value} {D : List Dm} (h : Book w base v D) (hb : base' ≤ base) : Book w base' v D := ⟨own_low h.own hb, fun d hd => own_low (h.ow d hd) hb, h.rng⟩
theorem Book.turn {w w' : World} {base : Nat} {v : Value} {D : List Dm} (h : Book w base v D) (g : w.grownBy w' v.ownBlock) : ∀ d ∈ D, w'.ownsRow base 78 7 (.slice d.ad d.L.length d.cap) d.L.length (d.L.flatMap stpC) := by
  intro d hd
  refine (h.ow d hd).kept g ?_
  cases e : v.ownBlock with
  | none => exact own_or _
  | some b => exact Or.inr (own_apart h.own (h.ow d hd) (by decide) e)
end Go.Proofs.YtfobfpigbfepoaaGreatDoor
