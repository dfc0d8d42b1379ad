/- Parts of these proofs, laid together. -/
import Derived.Test.YthaadiclopoamaaGreatDoorGD
import Derived.BigQuiet
import Derived.Test.YthaadiclopoamaaGreatDoorGA
import Derived.Deep.RegionHeld3
/- lexic: kinds of bytes, and the methods of a place. -/
set_option maxRecDepth 100000
set_option maxHeartbeats 8000000
namespace Go.Proofs.YthaadiclopoamaaGreatDoor
open Go.RowKit
open _root_.Go.Proofs.YthaadiclopoamaaGreatDoor.Act (letB digB sgnB)
open Lex (blkB remB run)

theorem Gr.drewN {a b : World} (h : Gr a b) (n : Nat) : Gr a (b.drewN n) := by
 induction n with
 | zero => exact h
 | succ n ih => exact ih.drew

theorem letter_any (b : UInt8) (w : World) : Calls Tryz.prog 168 #[.int .u8 (b.toNat : Int)] w fun e w' => e = .returned (.bool (letB b)) /\ w' = w := by
 unfold Act.letB
 by_cases h0 : (97 : Int) <= (b.toNat : Int)
 ·by_cases h1 : (b.toNat : Int) <= 122
  ·rw [decide_eq_true h0, decide_eq_true h1]
   go_enter Tryz.func168, Tryz.ntmps168
   go_wp2
   go_ret
   exact ⟨rfl, rfl⟩
  ·rw [decide_eq_true h0, decide_eq_false h1]
   go_enter Tryz.func168, Tryz.ntmps168
   go_wp2
   go_ret
   exact ⟨rfl, rfl⟩
 ·rw [decide_eq_false h0]
  go_enter Tryz.func168, Tryz.ntmps168
  go_wp2
  go_ret
  exact ⟨rfl, rfl⟩
theorem lDigit_any (b : UInt8) (w : World) : Calls Tryz.prog 170 #[.int .u8 (b.toNat : Int)] w fun e w' => e = .returned (.bool (digB b)) /\ w' = w := by
 unfold Act.digB
 by_cases h0 : (48 : Int) <= (b.toNat : Int)
 ·by_cases h1 : (b.toNat : Int) <= 57
  ·rw [decide_eq_true h0, decide_eq_true h1]
   go_enter Tryz.func170, Tryz.ntmps170
   go_wp2
   go_ret
   exact ⟨rfl, rfl⟩
  ·rw [decide_eq_true h0, decide_eq_false h1]
   go_enter Tryz.func170, Tryz.ntmps170
   go_wp2
   go_ret
   exact ⟨rfl, rfl⟩
 ·rw [decide_eq_false h0]
  go_enter Tryz.func170, Tryz.ntmps170
  go_wp2
  go_ret
  exact ⟨rfl, rfl⟩
theorem blank_any (b : UInt8) (w : World) : Calls Tryz.prog 153 #[.int .u8 (b.toNat : Int)] w fun e w' => e = .returned (.bool (blkB b)) /\ w' = w := by
 unfold Lex.blkB
 by_cases h0 : (b.toNat : Int) = 32
 ·rw [decide_eq_true h0]
  have e0 : ((b.toNat : Int) == 32) = true := by simpa using h0
  clear h0
  go_enter Tryz.func153, Tryz.ntmps153
  go_wp2
  go_ret
  exact ⟨rfl, rfl⟩
 ·rw [decide_eq_false h0]
  have e0 : ((b.toNat : Int) == 32) = false := by simpa using h0
  by_cases h1 : (b.toNat : Int) = 9
  ·rw [decide_eq_true h1]
   have e1 : ((b.toNat : Int) == 9) = true := by simpa using h1
   clear h0 h1
   go_enter Tryz.func153, Tryz.ntmps153
   go_wp2
   go_ret
   exact ⟨rfl, rfl⟩
  ·rw [decide_eq_false h1]
   have e1 : ((b.toNat : Int) == 9) = false := by simpa using h1
   have e2 : ((b.toNat : Int) == 10) = decide ((b.toNat : Int) = 10) := by rfl
   clear h0 h1
   generalize decide ((b.toNat : Int) = 10) = c at e2 ⊢
   go_enter Tryz.func153, Tryz.ntmps153
   go_wp2
   go_ret
   exact ⟨by simp, rfl⟩
theorem remark_any (b : UInt8) (w : World) : Calls Tryz.prog 155 #[.int .u8 (b.toNat : Int)] w fun e w' => e = .returned (.bool (remB b)) /\ w' = w := by
 unfold Lex.remB
 by_cases h0 : (b.toNat : Int) = 10
 ·rw [decide_eq_true h0]
  have e0 : ((b.toNat : Int) != 10) = false := by simpa using h0
  clear h0
  go_enter Tryz.func155, Tryz.ntmps155
  go_wp2
  go_ret
  exact ⟨rfl, rfl⟩
 ·rw [decide_eq_false h0]
  have e0 : ((b.toNat : Int) != 10) = true := by simpa using h0
  clear h0
  go_enter Tryz.func155, Tryz.ntmps155
  go_wp2
  go_ret
  exact ⟨rfl, rfl⟩
theorem inWord_any (b : UInt8) (w : World) : Calls Tryz.prog 169 #[.int .u8 (b.toNat : Int)] w fun e w' => e = .returned (.bool (sgnB b)) /\ w' = w := by
 have HL : Hid (∀ w : World, Calls Tryz.prog 168 #[.int .u8 (b.toNat : Int)] w fun e w' => e = .returned (.bool (letB b)) /\ w' = w) := letter_any b
 have HD : Hid (∀ w : World, Calls Tryz.prog 170 #[.int .u8 (b.toNat : Int)] w fun e w' => e = .returned (.bool (digB b)) /\ w' = w) := lDigit_any b
 unfold Act.sgnB
 cases h : letB b with
 | true =>
  rw [h] at HL
  go_enter Tryz.func169, Tryz.ntmps169
  go_wp2_with fail
  refine (HL.out _).mono ?_
  rintro e w1 ⟨rfl, hw1⟩; obtain rfl := hw1.symm
  go_wp2
  go_ret
  exact ⟨rfl, rfl⟩
 | false =>
  rw [h] at HL
  go_enter Tryz.func169, Tryz.ntmps169
  go_wp2_with fail
  refine (HL.out _).mono ?_
  rintro e w1 ⟨rfl, hw1⟩; obtain rfl := hw1.symm
  go_wp2_with fail
  refine (HD.out _).mono ?_
  rintro e w1 ⟨rfl, hw1⟩; obtain rfl := hw1.symm
  go_wp2
  go_ret
  exact ⟨rfl, rfl⟩

theorem lOver_any (b : Nat) (s : ByteArray) (k : Nat) (w : World) (h : PlAt w b s k) : Calls Tryz.prog 151 #[.pointer (some ⟨b, 0, none⟩)] w fun e w' => e = .returned (.bool (decide (s.size <= k))) /\ Gr w w' := by
 obtain ⟨h0, h1, _, hl⟩ := h
 go_enter Tryz.func151, Tryz.ntmps151
 go_wp2
 go_quiet (fail)
 go_wp2
 go_ret
 exact ⟨rfl, (Gr.refl _).drewN _⟩
theorem here_any (b : Nat) (s : ByteArray) (k : Nat) (w : World) (h : PlAt w b s k) (hk : k < s.size) : Calls Tryz.prog 152 #[.pointer (some ⟨b, 0, none⟩)] w fun e w' => e = .returned (.int .u8 ((s[k]'hk).toNat : Int)) /\ Gr w w' := by
 obtain ⟨h0, h1, _, hl⟩ := h
 go_enter Tryz.func152, Tryz.ntmps152
 go_wp2
 go_quiet (fail)
 go_wp2
 go_ret
 exact ⟨rfl, (Gr.refl _).drewN _⟩
theorem take_any (b : Nat) (s : ByteArray) (k : Nat) (w : World) (h : PlAt w b s k) (hk : k < s.size) (hs : s.size <= 9223372036854775807) : Calls Tryz.prog 171 #[.pointer (some ⟨b, 0, none⟩)] w fun e w' => e = .returned (.string (s.extract k (k + 1))) /\ PlAt w' b s (k + 1) /\ PO b w w' := by
 have HP : Hid (PlAt w b s k) := h
 obtain ⟨h0, h1, f1, hl⟩ := h
 have e1 : IntKind.i64.wrap ((k : Int) + 1) = ((k + 1 : Nat) : Int) := by rw [IntKind.wrap_i64]; omega
 have e2 : wrap64 ((k : Int) + 1) = ((k + 1 : Nat) : Int) := by unfold wrap64; omega
 have e3 : wrap64 (((k + 1 : Nat) : Int) - 1) = (k : Int) := by unfold wrap64; omega
 have e4 : IntKind.i64.wrap (((k + 1 : Nat) : Int) - 1) = (k : Int) := by rw [IntKind.wrap_i64]; omega
 have i1 : ((k + 1 : Nat) : Int) <= (s.size : Int) := by omega
 have i2 : (k : Int) <= ((k + 1 : Nat) : Int) := by omega
 obtain ⟨m, hm⟩ : ∃ m, m = k + 1 := ⟨_, rfl⟩
 rw [<- hm] at e1 e2 e3 e4 i1 i2 ⊢
 have hx : m <= s.size := by omega
 have h2 : k <= m := by omega
 clear hm hk
 go_enter Tryz.func171, Tryz.ntmps171
 go_wp2
 go_quiet (fail)
 go_wp2
 go_ret
 exact ⟨rfl, (HP.out.set m).gr ((Gr.refl _).drewN _), (PO.set w _).trans (PO.ofGr ((Gr.refl _).drewN _))⟩

def intCell : Option Value -> Nat
 | some (.int _ n) => n.toNat
 | _ => 0
theorem run_all (p : UInt8 -> Bool) (s : ByteArray) : s.data.toList.all p = decide (s.size <= run p s.data.toList) := by
 have hl : s.data.toList.length = s.size := by simp
 rw [<- hl]
 generalize s.data.toList = l
 induction l with
 | nil => rfl
 | cons b t ih =>
  cases h : p b with
  | false => rw [Lex.run_no t h, List.all_cons, h]; simp
  | true => rw [Lex.run_yes t h, List.all_cons, h, ih]; simp

theorem takeAllBlk (b : Nat) (s : ByteArray) (k : Nat) (w : World) (h : PlAt w b s k) (hk : k <= s.size) (hs : s.size <= 9223372036854775807) :
  Calls Tryz.prog 154 #[.pointer (some ⟨b, 0, none⟩), .func (.func 153) #[] #[]] w fun e w' => e = .returned (.string (s.extract k (k + run blkB (s.data.toList.drop k)))) /\ PlAt w' b s (k + run blkB (s.data.toList.drop k)) /\ PO b w w' := by
 have HO : Hid (∀ (m : Nat) (w' : World), PlAt w' b s m -> Calls Tryz.prog 151 #[.pointer (some ⟨b, 0, none⟩)] w' fun e w2 => e = .returned (.bool (decide (s.size <= m))) /\ Gr w' w2) := fun m w' g => lOver_any b s m w' g
 have HH : Hid (∀ (m : Nat) (hm : m < s.size) (w' : World), PlAt w' b s m -> Calls Tryz.prog 152 #[.pointer (some ⟨b, 0, none⟩)] w' fun e w2 => e = .returned (.int .u8 ((s[m]'hm).toNat : Int)) /\ Gr w' w2) := fun m hm w' g => here_any b s m w' g hm
 have HK : Hid (∀ (c : UInt8) (w : World), Calls Tryz.prog 153 #[.int .u8 (c.toNat : Int)] w fun e w' => e = .returned (.bool (blkB c)) /\ w' = w) := blank_any
 have HP : Hid (PlAt w b s k) := h
 have HR : Hid (∀ m, k <= m -> m <= s.size -> (∀ j (hj : j < s.size), k <= j -> j < m -> blkB (s[j]'hj) = true) -> (∀ hm : m < s.size, blkB (s[m]'hm) = false) -> k + run blkB (s.data.toList.drop k) = m) := by
  intro m hkm hms ha he
  have hl : s.data.toList.length = s.size := by simp
  have := Lex.run_eq blkB (s.data.toList.drop k) (m - k) (by rw [List.length_drop, hl]; omega)
   (fun j hj hlt => by rw [List.getElem_drop]; exact ha (k + j) (by rw [List.length_drop, hl] at hj; omega) (by omega) (by omega))
   (fun hlt => by
    rw [List.length_drop, hl] at hlt
    rw [List.getElem_drop]
    have e : k + (m - k) = m := by omega
    simp only [e]
    exact he (by omega))
  omega
 obtain ⟨h0, h1, f1, hl⟩ := h
 go_enter Tryz.func154, Tryz.ntmps154
 go_wp2
 go_loopw [] (fun wr => ∃ m : Nat, k <= m /\ m <= s.size /\ PlAt wr b s m /\ PO b w wr /\ (∀ j (hj : j < s.size), k <= j -> j < m -> blkB (s[j]'hj) = true)) (fun wr => s.size - intCell (wr.cell? ⟨b, 1, none⟩))
 case atStart => exact ⟨k, Nat.le_refl _, hk, HP.out, PO.ofGr (Gr.refl _), fun j _ h1 h2 => absurd h2 (by omega)⟩
 case round =>
  obtain ⟨m, hkm, hms, hpl, hpo, hall⟩ := hrel
  have HA : Hid (∀ j (hj : j < s.size), k <= j -> j < m -> blkB (s[j]'hj) = true) := hall
  have HM : Hid (PlAt wr b s m) := hpl
  have HG : Hid (PO b w wr) := hpo
  have hmc : intCell (wr.cell? ⟨b, 1, none⟩) = m := by rw [hpl.c1]; rfl
  clear hall hpl hpo
  by_cases hlt : m < s.size
  ·have hdc : decide (s.size <= m) = false := decide_eq_false (by omega)
   go_wp2_with fail
   refine (HO.out m _ HM.out).mono ?_
   rintro e w1 ⟨rfl, hg1⟩
   rw [hdc]
   have HM1 := HM.out.gr hg1
   have HM1 : Hid (PlAt w1 b s m) := HM.out.gr hg1
   have HG1 : Hid (PO b w w1) := HG.out.trans (PO.ofGr hg1)
   go_wp2_with fail
   refine (HH.out m hlt _ HM1.out).mono ?_
   rintro e w2 ⟨rfl, hg2⟩
   have HM2 : Hid (PlAt w2 b s m) := HM1.out.gr hg2
   have HG2 : Hid (PO b w w2) := HG1.out.trans (PO.ofGr hg2)
   go_wp2_with fail
   refine (HK.out (s[m]'hlt) _).mono ?_
   rintro e w3 ⟨rfl, hw3⟩
   obtain rfl := hw3.symm
   cases hp : blkB (s[m]'hlt) with
   | true =>
    have HS : Hid (blkB (s[m]'hlt) = true) := hp
    obtain ⟨c0, c1, g1, cl⟩ := HM2.out
    have e2 : wrap64 ((m : Int) + 1) = ((m + 1 : Nat) : Int) := by unfold wrap64; omega
    clear hp
    go_wp2
    go_roundw
    case rel =>
     refine ⟨m + 1, by omega, by omega, ?_, ?_, fun j hj h1 h2 => if e : j = m then by subst e; exact HS.out else HA.out j hj h1 (by omega)⟩
     ·exact HM2.out.set (m + 1)
     ·exact HG2.out.trans (PO.set _ _)
    case measure =>
     have e9 : intCell ((w2.setCell ⟨b, 1, none⟩ (.int .i64 ((m : Int) + 1))).cell? ⟨b, 1, none⟩) = m + 1 := by
      have := (HM2.out.set (m + 1)).c1
      rw [show ((m : Int) + 1) = ((m + 1 : Nat) : Int) by omega, this]; rfl
     rw [hmc, e9]
     omega
   | false =>
    have HE : Hid (k + run blkB (s.data.toList.drop k) = m) := HR.out m hkm hms HA.out (fun _ => hp)
    obtain ⟨c0, c1, g1, cl⟩ := HM2.out
    have i1 : (m : Int) <= (s.size : Int) := by omega
    have i2 : (k : Int) <= (m : Int) := by omega
    clear hp
    go_wp2
    go_quiet (fail)
    go_wp2
    go_ret
    rw [HE.out]
    exact ⟨rfl, HM2.out.gr ((Gr.refl _).drewN _), HG2.out.trans (PO.ofGr ((Gr.refl _).drewN _))⟩
  ·have hdc : decide (s.size <= m) = true := decide_eq_true (by omega)
   have HE : Hid (k + run blkB (s.data.toList.drop k) = m) := HR.out m hkm hms HA.out (fun h => absurd h hlt)
   go_wp2_with fail
   refine (HO.out m _ HM.out).mono ?_
   rintro e w1 ⟨rfl, hg1⟩
   rw [hdc]
   have HM1 : Hid (PlAt w1 b s m) := HM.out.gr hg1
   have HG1 : Hid (PO b w w1) := HG.out.trans (PO.ofGr hg1)
   obtain ⟨c0, c1, g1, cl⟩ := HM1.out
   have i1 : (m : Int) <= (s.size : Int) := by omega
   have i2 : (k : Int) <= (m : Int) := by omega
   go_wp2
   go_quiet (fail)
   go_wp2
   go_ret
   rw [HE.out]
   exact ⟨rfl, HM1.out.gr ((Gr.refl _).drewN _), HG1.out.trans (PO.ofGr ((Gr.refl _).drewN _))⟩

theorem takeAllRem (b : Nat) (s : ByteArray) (k : Nat) (w : World) (h : PlAt w b s k) (hk : k <= s.size) (hs : s.size <= 9223372036854775807) :
  Calls Tryz.prog 154 #[.pointer (some ⟨b, 0, none⟩), .func (.func 155) #[] #[]] w fun e w' => e = .returned (.string (s.extract k (k + run remB (s.data.toList.drop k)))) /\ PlAt w' b s (k + run remB (s.data.toList.drop k)) /\ PO b w w' := by
 have HO : Hid (∀ (m : Nat) (w' : World), PlAt w' b s m -> Calls Tryz.prog 151 #[.pointer (some ⟨b, 0, none⟩)] w' fun e w2 => e = .returned (.bool (decide (s.size <= m))) /\ Gr w' w2) := fun m w' g => lOver_any b s m w' g
 have HH : Hid (∀ (m : Nat) (hm : m < s.size) (w' : World), PlAt w' b s m -> Calls Tryz.prog 152 #[.pointer (some ⟨b, 0, none⟩)] w' fun e w2 => e = .returned (.int .u8 ((s[m]'hm).toNat : Int)) /\ Gr w' w2) := fun m hm w' g => here_any b s m w' g hm
 have HK : Hid (∀ (c : UInt8) (w : World), Calls Tryz.prog 155 #[.int .u8 (c.toNat : Int)] w fun e w' => e = .returned (.bool (remB c)) /\ w' = w) := remark_any
 have HP : Hid (PlAt w b s k) := h
 have HR : Hid (∀ m, k <= m -> m <= s.size -> (∀ j (hj : j < s.size), k <= j -> j < m -> remB (s[j]'hj) = true) -> (∀ hm : m < s.size, remB (s[m]'hm) = false) -> k + run remB (s.data.toList.drop k) = m) := by
  intro m hkm hms ha he
  have hl : s.data.toList.length = s.size := by simp
  have := Lex.run_eq remB (s.data.toList.drop k) (m - k) (by rw [List.length_drop, hl]; omega)
   (fun j hj hlt => by rw [List.getElem_drop]; exact ha (k + j) (by rw [List.length_drop, hl] at hj; omega) (by omega) (by omega))
   (fun hlt => by
    rw [List.length_drop, hl] at hlt
    rw [List.getElem_drop]
    have e : k + (m - k) = m := by omega
    simp only [e]
    exact he (by omega))
  omega
 obtain ⟨h0, h1, f1, hl⟩ := h
 go_enter Tryz.func154, Tryz.ntmps154
 go_wp2
 go_loopw [] (fun wr => ∃ m : Nat, k <= m /\ m <= s.size /\ PlAt wr b s m /\ PO b w wr /\ (∀ j (hj : j < s.size), k <= j -> j < m -> remB (s[j]'hj) = true)) (fun wr => s.size - intCell (wr.cell? ⟨b, 1, none⟩))
 case atStart => exact ⟨k, Nat.le_refl _, hk, HP.out, PO.ofGr (Gr.refl _), fun j _ h1 h2 => absurd h2 (by omega)⟩
 case round =>
  obtain ⟨m, hkm, hms, hpl, hpo, hall⟩ := hrel
  have HA : Hid (∀ j (hj : j < s.size), k <= j -> j < m -> remB (s[j]'hj) = true) := hall
  have HM : Hid (PlAt wr b s m) := hpl
  have HG : Hid (PO b w wr) := hpo
  have hmc : intCell (wr.cell? ⟨b, 1, none⟩) = m := by rw [hpl.c1]; rfl
  clear hall hpl hpo
  by_cases hlt : m < s.size
  ·have hdc : decide (s.size <= m) = false := decide_eq_false (by omega)
   go_wp2_with fail
   refine (HO.out m _ HM.out).mono ?_
   rintro e w1 ⟨rfl, hg1⟩
   rw [hdc]
   have HM1 := HM.out.gr hg1
   have HM1 : Hid (PlAt w1 b s m) := HM.out.gr hg1
   have HG1 : Hid (PO b w w1) := HG.out.trans (PO.ofGr hg1)
   go_wp2_with fail
   refine (HH.out m hlt _ HM1.out).mono ?_
   rintro e w2 ⟨rfl, hg2⟩
   have HM2 : Hid (PlAt w2 b s m) := HM1.out.gr hg2
   have HG2 : Hid (PO b w w2) := HG1.out.trans (PO.ofGr hg2)
   go_wp2_with fail
   refine (HK.out (s[m]'hlt) _).mono ?_
   rintro e w3 ⟨rfl, hw3⟩
   obtain rfl := hw3.symm
   cases hp : remB (s[m]'hlt) with
   | true =>
    have HS : Hid (remB (s[m]'hlt) = true) := hp
    obtain ⟨c0, c1, g1, cl⟩ := HM2.out
    have e2 : wrap64 ((m : Int) + 1) = ((m + 1 : Nat) : Int) := by unfold wrap64; omega
    clear hp
    go_wp2
    go_roundw
    case rel =>
     refine ⟨m + 1, by omega, by omega, ?_, ?_, fun j hj h1 h2 => if e : j = m then by subst e; exact HS.out else HA.out j hj h1 (by omega)⟩
     ·exact HM2.out.set (m + 1)
     ·exact HG2.out.trans (PO.set _ _)
    case measure =>
     have e9 : intCell ((w2.setCell ⟨b, 1, none⟩ (.int .i64 ((m : Int) + 1))).cell? ⟨b, 1, none⟩) = m + 1 := by
      have := (HM2.out.set (m + 1)).c1
      rw [show ((m : Int) + 1) = ((m + 1 : Nat) : Int) by omega, this]; rfl
     rw [hmc, e9]
     omega
   | false =>
    have HE : Hid (k + run remB (s.data.toList.drop k) = m) := HR.out m hkm hms HA.out (fun _ => hp)
    obtain ⟨c0, c1, g1, cl⟩ := HM2.out
    have i1 : (m : Int) <= (s.size : Int) := by omega
    have i2 : (k : Int) <= (m : Int) := by omega
    clear hp
    go_wp2
    go_quiet (fail)
    go_wp2
    go_ret
    rw [HE.out]
    exact ⟨rfl, HM2.out.gr ((Gr.refl _).drewN _), HG2.out.trans (PO.ofGr ((Gr.refl _).drewN _))⟩
  ·have hdc : decide (s.size <= m) = true := decide_eq_true (by omega)
   have HE : Hid (k + run remB (s.data.toList.drop k) = m) := HR.out m hkm hms HA.out (fun h => absurd h hlt)
   go_wp2_with fail
   refine (HO.out m _ HM.out).mono ?_
   rintro e w1 ⟨rfl, hg1⟩
   rw [hdc]
   have HM1 : Hid (PlAt w1 b s m) := HM.out.gr hg1
   have HG1 : Hid (PO b w w1) := HG.out.trans (PO.ofGr hg1)
   obtain ⟨c0, c1, g1, cl⟩ := HM1.out
   have i1 : (m : Int) <= (s.size : Int) := by omega
   have i2 : (k : Int) <= (m : Int) := by omega
   go_wp2
   go_quiet (fail)
   go_wp2
   go_ret
   rw [HE.out]
   exact ⟨rfl, HM1.out.gr ((Gr.refl _).drewN _), HG1.out.trans (PO.ofGr ((Gr.refl _).drewN _))⟩

theorem takeAllSgn (b : Nat) (s : ByteArray) (k : Nat) (w : World) (h : PlAt w b s k) (hk : k <= s.size) (hs : s.size <= 9223372036854775807) :
  Calls Tryz.prog 154 #[.pointer (some ⟨b, 0, none⟩), .func (.func 169) #[] #[]] w fun e w' => e = .returned (.string (s.extract k (k + run sgnB (s.data.toList.drop k)))) /\ PlAt w' b s (k + run sgnB (s.data.toList.drop k)) /\ PO b w w' := by
 have HO : Hid (∀ (m : Nat) (w' : World), PlAt w' b s m -> Calls Tryz.prog 151 #[.pointer (some ⟨b, 0, none⟩)] w' fun e w2 => e = .returned (.bool (decide (s.size <= m))) /\ Gr w' w2) := fun m w' g => lOver_any b s m w' g
 have HH : Hid (∀ (m : Nat) (hm : m < s.size) (w' : World), PlAt w' b s m -> Calls Tryz.prog 152 #[.pointer (some ⟨b, 0, none⟩)] w' fun e w2 => e = .returned (.int .u8 ((s[m]'hm).toNat : Int)) /\ Gr w' w2) := fun m hm w' g => here_any b s m w' g hm
 have HK : Hid (∀ (c : UInt8) (w : World), Calls Tryz.prog 169 #[.int .u8 (c.toNat : Int)] w fun e w' => e = .returned (.bool (sgnB c)) /\ w' = w) := inWord_any
 have HP : Hid (PlAt w b s k) := h
 have HR : Hid (∀ m, k <= m -> m <= s.size -> (∀ j (hj : j < s.size), k <= j -> j < m -> sgnB (s[j]'hj) = true) -> (∀ hm : m < s.size, sgnB (s[m]'hm) = false) -> k + run sgnB (s.data.toList.drop k) = m) := by
  intro m hkm hms ha he
  have hl : s.data.toList.length = s.size := by simp
  have := Lex.run_eq sgnB (s.data.toList.drop k) (m - k) (by rw [List.length_drop, hl]; omega)
   (fun j hj hlt => by rw [List.getElem_drop]; exact ha (k + j) (by rw [List.length_drop, hl] at hj; omega) (by omega) (by omega))
   (fun hlt => by
    rw [List.length_drop, hl] at hlt
    rw [List.getElem_drop]
    have e : k + (m - k) = m := by omega
    simp only [e]
    exact he (by omega))
  omega
 obtain ⟨h0, h1, f1, hl⟩ := h
 go_enter Tryz.func154, Tryz.ntmps154
 go_wp2
 go_loopw [] (fun wr => ∃ m : Nat, k <= m /\ m <= s.size /\ PlAt wr b s m /\ PO b w wr /\ (∀ j (hj : j < s.size), k <= j -> j < m -> sgnB (s[j]'hj) = true)) (fun wr => s.size - intCell (wr.cell? ⟨b, 1, none⟩))
 case atStart => exact ⟨k, Nat.le_refl _, hk, HP.out, PO.ofGr (Gr.refl _), fun j _ h1 h2 => absurd h2 (by omega)⟩
 case round =>
  obtain ⟨m, hkm, hms, hpl, hpo, hall⟩ := hrel
  have HA : Hid (∀ j (hj : j < s.size), k <= j -> j < m -> sgnB (s[j]'hj) = true) := hall
  have HM : Hid (PlAt wr b s m) := hpl
  have HG : Hid (PO b w wr) := hpo
  have hmc : intCell (wr.cell? ⟨b, 1, none⟩) = m := by rw [hpl.c1]; rfl
  clear hall hpl hpo
  by_cases hlt : m < s.size
  ·have hdc : decide (s.size <= m) = false := decide_eq_false (by omega)
   go_wp2_with fail
   refine (HO.out m _ HM.out).mono ?_
   rintro e w1 ⟨rfl, hg1⟩
   rw [hdc]
   have HM1 := HM.out.gr hg1
   have HM1 : Hid (PlAt w1 b s m) := HM.out.gr hg1
   have HG1 : Hid (PO b w w1) := HG.out.trans (PO.ofGr hg1)
   go_wp2_with fail
   refine (HH.out m hlt _ HM1.out).mono ?_
   rintro e w2 ⟨rfl, hg2⟩
   have HM2 : Hid (PlAt w2 b s m) := HM1.out.gr hg2
   have HG2 : Hid (PO b w w2) := HG1.out.trans (PO.ofGr hg2)
   go_wp2_with fail
   refine (HK.out (s[m]'hlt) _).mono ?_
   rintro e w3 ⟨rfl, hw3⟩
   obtain rfl := hw3.symm
   cases hp : sgnB (s[m]'hlt) with
   | true =>
    have HS : Hid (sgnB (s[m]'hlt) = true) := hp
    obtain ⟨c0, c1, g1, cl⟩ := HM2.out
    have e2 : wrap64 ((m : Int) + 1) = ((m + 1 : Nat) : Int) := by unfold wrap64; omega
    clear hp
    go_wp2
    go_roundw
    case rel =>
     refine ⟨m + 1, by omega, by omega, ?_, ?_, fun j hj h1 h2 => if e : j = m then by subst e; exact HS.out else HA.out j hj h1 (by omega)⟩
     ·exact HM2.out.set (m + 1)
     ·exact HG2.out.trans (PO.set _ _)
    case measure =>
     have e9 : intCell ((w2.setCell ⟨b, 1, none⟩ (.int .i64 ((m : Int) + 1))).cell? ⟨b, 1, none⟩) = m + 1 := by
      have := (HM2.out.set (m + 1)).c1
      rw [show ((m : Int) + 1) = ((m + 1 : Nat) : Int) by omega, this]; rfl
     rw [hmc, e9]
     omega
   | false =>
    have HE : Hid (k + run sgnB (s.data.toList.drop k) = m) := HR.out m hkm hms HA.out (fun _ => hp)
    obtain ⟨c0, c1, g1, cl⟩ := HM2.out
    have i1 : (m : Int) <= (s.size : Int) := by omega
    have i2 : (k : Int) <= (m : Int) := by omega
    clear hp
    go_wp2
    go_quiet (fail)
    go_wp2
    go_ret
    rw [HE.out]
    exact ⟨rfl, HM2.out.gr ((Gr.refl _).drewN _), HG2.out.trans (PO.ofGr ((Gr.refl _).drewN _))⟩
  ·have hdc : decide (s.size <= m) = true := decide_eq_true (by omega)
   have HE : Hid (k + run sgnB (s.data.toList.drop k) = m) := HR.out m hkm hms HA.out (fun h => absurd h hlt)
   go_wp2_with fail
   refine (HO.out m _ HM.out).mono ?_
   rintro e w1 ⟨rfl, hg1⟩
   rw [hdc]
   have HM1 : Hid (PlAt w1 b s m) := HM.out.gr hg1
   have HG1 : Hid (PO b w w1) := HG.out.trans (PO.ofGr hg1)
   obtain ⟨c0, c1, g1, cl⟩ := HM1.out
   have i1 : (m : Int) <= (s.size : Int) := by omega
   have i2 : (k : Int) <= (m : Int) := by omega
   go_wp2
   go_quiet (fail)
   go_wp2
   go_ret
   rw [HE.out]
   exact ⟨rfl, HM1.out.gr ((Gr.refl _).drewN _), HG1.out.trans (PO.ofGr ((Gr.refl _).drewN _))⟩

theorem takeAllDig (b : Nat) (s : ByteArray) (k : Nat) (w : World) (h : PlAt w b s k) (hk : k <= s.size) (hs : s.size <= 9223372036854775807) :
  Calls Tryz.prog 154 #[.pointer (some ⟨b, 0, none⟩), .func (.func 170) #[] #[]] w fun e w' => e = .returned (.string (s.extract k (k + run digB (s.data.toList.drop k)))) /\ PlAt w' b s (k + run digB (s.data.toList.drop k)) /\ PO b w w' := by
 have HO : Hid (∀ (m : Nat) (w' : World), PlAt w' b s m -> Calls Tryz.prog 151 #[.pointer (some ⟨b, 0, none⟩)] w' fun e w2 => e = .returned (.bool (decide (s.size <= m))) /\ Gr w' w2) := fun m w' g => lOver_any b s m w' g
 have HH : Hid (∀ (m : Nat) (hm : m < s.size) (w' : World), PlAt w' b s m -> Calls Tryz.prog 152 #[.pointer (some ⟨b, 0, none⟩)] w' fun e w2 => e = .returned (.int .u8 ((s[m]'hm).toNat : Int)) /\ Gr w' w2) := fun m hm w' g => here_any b s m w' g hm
 have HK : Hid (∀ (c : UInt8) (w : World), Calls Tryz.prog 170 #[.int .u8 (c.toNat : Int)] w fun e w' => e = .returned (.bool (digB c)) /\ w' = w) := lDigit_any
 have HP : Hid (PlAt w b s k) := h
 have HR : Hid (∀ m, k <= m -> m <= s.size -> (∀ j (hj : j < s.size), k <= j -> j < m -> digB (s[j]'hj) = true) -> (∀ hm : m < s.size, digB (s[m]'hm) = false) -> k + run digB (s.data.toList.drop k) = m) := by
  intro m hkm hms ha he
  have hl : s.data.toList.length = s.size := by simp
  have := Lex.run_eq digB (s.data.toList.drop k) (m - k) (by rw [List.length_drop, hl]; omega)
   (fun j hj hlt => by rw [List.getElem_drop]; exact ha (k + j) (by rw [List.length_drop, hl] at hj; omega) (by omega) (by omega))
   (fun hlt => by
    rw [List.length_drop, hl] at hlt
    rw [List.getElem_drop]
    have e : k + (m - k) = m := by omega
    simp only [e]
    exact he (by omega))
  omega
 obtain ⟨h0, h1, f1, hl⟩ := h
 go_enter Tryz.func154, Tryz.ntmps154
 go_wp2
 go_loopw [] (fun wr => ∃ m : Nat, k <= m /\ m <= s.size /\ PlAt wr b s m /\ PO b w wr /\ (∀ j (hj : j < s.size), k <= j -> j < m -> digB (s[j]'hj) = true)) (fun wr => s.size - intCell (wr.cell? ⟨b, 1, none⟩))
 case atStart => exact ⟨k, Nat.le_refl _, hk, HP.out, PO.ofGr (Gr.refl _), fun j _ h1 h2 => absurd h2 (by omega)⟩
 case round =>
  obtain ⟨m, hkm, hms, hpl, hpo, hall⟩ := hrel
  have HA : Hid (∀ j (hj : j < s.size), k <= j -> j < m -> digB (s[j]'hj) = true) := hall
  have HM : Hid (PlAt wr b s m) := hpl
  have HG : Hid (PO b w wr) := hpo
  have hmc : intCell (wr.cell? ⟨b, 1, none⟩) = m := by rw [hpl.c1]; rfl
  clear hall hpl hpo
  by_cases hlt : m < s.size
  ·have hdc : decide (s.size <= m) = false := decide_eq_false (by omega)
   go_wp2_with fail
   refine (HO.out m _ HM.out).mono ?_
   rintro e w1 ⟨rfl, hg1⟩
   rw [hdc]
   have HM1 := HM.out.gr hg1
   have HM1 : Hid (PlAt w1 b s m) := HM.out.gr hg1
   have HG1 : Hid (PO b w w1) := HG.out.trans (PO.ofGr hg1)
   go_wp2_with fail
   refine (HH.out m hlt _ HM1.out).mono ?_
   rintro e w2 ⟨rfl, hg2⟩
   have HM2 : Hid (PlAt w2 b s m) := HM1.out.gr hg2
   have HG2 : Hid (PO b w w2) := HG1.out.trans (PO.ofGr hg2)
   go_wp2_with fail
   refine (HK.out (s[m]'hlt) _).mono ?_
   rintro e w3 ⟨rfl, hw3⟩
   obtain rfl := hw3.symm
   cases hp : digB (s[m]'hlt) with
   | true =>
    have HS : Hid (digB (s[m]'hlt) = true) := hp
    obtain ⟨c0, c1, g1, cl⟩ := HM2.out
    have e2 : wrap64 ((m : Int) + 1) = ((m + 1 : Nat) : Int) := by unfold wrap64; omega
    clear hp
    go_wp2
    go_roundw
    case rel =>
     refine ⟨m + 1, by omega, by omega, ?_, ?_, fun j hj h1 h2 => if e : j = m then by subst e; exact HS.out else HA.out j hj h1 (by omega)⟩
     ·exact HM2.out.set (m + 1)
     ·exact HG2.out.trans (PO.set _ _)
    case measure =>
     have e9 : intCell ((w2.setCell ⟨b, 1, none⟩ (.int .i64 ((m : Int) + 1))).cell? ⟨b, 1, none⟩) = m + 1 := by
      have := (HM2.out.set (m + 1)).c1
      rw [show ((m : Int) + 1) = ((m + 1 : Nat) : Int) by omega, this]; rfl
     rw [hmc, e9]
     omega
   | false =>
    have HE : Hid (k + run digB (s.data.toList.drop k) = m) := HR.out m hkm hms HA.out (fun _ => hp)
    obtain ⟨c0, c1, g1, cl⟩ := HM2.out
    have i1 : (m : Int) <= (s.size : Int) := by omega
    have i2 : (k : Int) <= (m : Int) := by omega
    clear hp
    go_wp2
    go_quiet (fail)
    go_wp2
    go_ret
    rw [HE.out]
    exact ⟨rfl, HM2.out.gr ((Gr.refl _).drewN _), HG2.out.trans (PO.ofGr ((Gr.refl _).drewN _))⟩
  ·have hdc : decide (s.size <= m) = true := decide_eq_true (by omega)
   have HE : Hid (k + run digB (s.data.toList.drop k) = m) := HR.out m hkm hms HA.out (fun h => absurd h hlt)
   go_wp2_with fail
   refine (HO.out m _ HM.out).mono ?_
   rintro e w1 ⟨rfl, hg1⟩
   rw [hdc]
   have HM1 : Hid (PlAt w1 b s m) := HM.out.gr hg1
   have HG1 : Hid (PO b w w1) := HG.out.trans (PO.ofGr hg1)
   obtain ⟨c0, c1, g1, cl⟩ := HM1.out
   have i1 : (m : Int) <= (s.size : Int) := by omega
   have i2 : (k : Int) <= (m : Int) := by omega
   go_wp2
   go_quiet (fail)
   go_wp2
   go_ret
   rw [HE.out]
   exact ⟨rfl, HM1.out.gr ((Gr.refl _).drewN _), HG1.out.trans (PO.ofGr ((Gr.refl _).drewN _))⟩

theorem allSgn (s : ByteArray) (w : World) (hs : s.size <= 9223372036854775807) :
  Calls Tryz.prog 180 #[.string s, .func (.func 169) #[] #[]] w fun e w' => e = .returned (.bool (s.data.toList.all sgnB)) /\ Gr w w' := by
 have HT : Hid (∀ w' b, PlAt w' b s 0 -> Calls Tryz.prog 154 #[.pointer (some ⟨b, 0, none⟩), .func (.func 169) #[] #[]] w' fun e w2 => e = .returned (.string (s.extract 0 (0 + run sgnB (s.data.toList.drop 0)))) /\ PlAt w2 b s (0 + run sgnB (s.data.toList.drop 0)) /\ PO b w' w2) := fun w' b h => takeAllSgn b s 0 w' h (by omega) hs
 have HO : Hid (∀ (b m : Nat) (w' : World), PlAt w' b s m -> Calls Tryz.prog 151 #[.pointer (some ⟨b, 0, none⟩)] w' fun e w2 => e = .returned (.bool (decide (s.size <= m))) /\ Gr w' w2) := fun b m w' g => lOver_any b s m w' g
 have HE : Hid (s.data.toList.all sgnB = decide (s.size <= 0 + run sgnB (s.data.toList.drop 0))) := by
  show _ = _
  rw [List.drop_zero, Nat.zero_add]
  exact run_all sgnB s
 generalize s.data.toList.all sgnB = c at HE ⊢
 have HP : Hid (PlAt (w.alloc (.cells #[.string s, .int .i64 0] 184)) w.heap.size s 0) := ⟨by simp, by simp, by simp [go_sem], by simp⟩
 go_enter Tryz.func180, Tryz.ntmps180
 go_wp2_with fail
 refine (HT.out _ _ HP.out).mono ?_
 rintro e w1 ⟨rfl, hp1, ho1⟩
 have HP1 : Hid (PlAt w1 w.heap.size s (0 + run sgnB (s.data.toList.drop 0))) := hp1
 have HG1 : Hid (Gr w w1) := (Gr.refl w).alloc.po ho1 (Nat.le_refl _)
 clear hp1 ho1
 go_wp2_with fail
 refine (HO.out _ _ _ HP1.out).mono ?_
 rintro e w2 ⟨rfl, hg2⟩
 rw [<- HE.out]
 go_wp2
 go_ret
 exact ⟨rfl, HG1.out.trans hg2⟩

theorem allDig (s : ByteArray) (w : World) (hs : s.size <= 9223372036854775807) :
  Calls Tryz.prog 180 #[.string s, .func (.func 170) #[] #[]] w fun e w' => e = .returned (.bool (s.data.toList.all digB)) /\ Gr w w' := by
 have HT : Hid (∀ w' b, PlAt w' b s 0 -> Calls Tryz.prog 154 #[.pointer (some ⟨b, 0, none⟩), .func (.func 170) #[] #[]] w' fun e w2 => e = .returned (.string (s.extract 0 (0 + run digB (s.data.toList.drop 0)))) /\ PlAt w2 b s (0 + run digB (s.data.toList.drop 0)) /\ PO b w' w2) := fun w' b h => takeAllDig b s 0 w' h (by omega) hs
 have HO : Hid (∀ (b m : Nat) (w' : World), PlAt w' b s m -> Calls Tryz.prog 151 #[.pointer (some ⟨b, 0, none⟩)] w' fun e w2 => e = .returned (.bool (decide (s.size <= m))) /\ Gr w' w2) := fun b m w' g => lOver_any b s m w' g
 have HE : Hid (s.data.toList.all digB = decide (s.size <= 0 + run digB (s.data.toList.drop 0))) := by
  show _ = _
  rw [List.drop_zero, Nat.zero_add]
  exact run_all digB s
 generalize s.data.toList.all digB = c at HE ⊢
 have HP : Hid (PlAt (w.alloc (.cells #[.string s, .int .i64 0] 184)) w.heap.size s 0) := ⟨by simp, by simp, by simp [go_sem], by simp⟩
 go_enter Tryz.func180, Tryz.ntmps180
 go_wp2_with fail
 refine (HT.out _ _ HP.out).mono ?_
 rintro e w1 ⟨rfl, hp1, ho1⟩
 have HP1 : Hid (PlAt w1 w.heap.size s (0 + run digB (s.data.toList.drop 0))) := hp1
 have HG1 : Hid (Gr w w1) := (Gr.refl w).alloc.po ho1 (Nat.le_refl _)
 clear hp1 ho1
 go_wp2_with fail
 refine (HO.out _ _ _ HP1.out).mono ?_
 rintro e w2 ⟨rfl, hg2⟩
 rw [<- HE.out]
 go_wp2
 go_ret
 exact ⟨rfl, HG1.out.trans hg2⟩
end Go.Proofs.YthaadiclopoamaaGreatDoor
/- A region that draws its order, walked by hand: one operation taken first, its place written out; one that is not wanted. -/
set_option maxRecDepth 100000
set_option maxHeartbeats 8000000
namespace Go.Proofs.YthaadiclopoamaaGreatDoor
variable {P : Program} {md : Region.Mode} {ops : Array Oper} {Q : Exit -> Act -> World -> Prop} {S : World -> Prop}

theorem take_yes (i d : Nat) {oi : Oper} {v : Value} {fuel : Nat} {listed : Array Bool} {a : Act} {w : World} (hi : ops[i]? = some oi) (hd : oi.dst = some d)
  (hs : Region.noSelect ops = true) (hf : Region.free md ops listed i = true) (hr : (Region.ready md ops listed).contains i = true)
  (hQ : ∀ c a w, Q (.panic c) (a.put (some d) v) w -> Q (.panic c) a w) (hw : Region.wanted oi (yielded ops a.tmps) = true) (hy : ∀ w, S w -> (execOp a.eval oi).run P w = .ok (.value v) w) (hS : S w)
  (h : wpAnyH P md ops Q S fuel (listed.setIfInBounds i true) (a.put (some d) v) w) : wpAnyH P md ops Q S (fuel + 1) listed a w := by
 rw [<- hd] at hQ h
 exact wpAnyH_take hi hs hf hr hQ (Or.inl ⟨hw, hy⟩) hS h
theorem take_not (i d : Nat) {oi : Oper} {fuel : Nat} {listed : Array Bool} {a : Act} {w : World} (hi : ops[i]? = some oi) (hd : oi.dst = some d)
  (hs : Region.noSelect ops = true) (hf : Region.free md ops listed i = true) (hr : (Region.ready md ops listed).contains i = true)
  (hQ : ∀ c a w, Q (.panic c) (a.put (some d) undef) w -> Q (.panic c) a w) (hw : Region.wanted oi (yielded ops a.tmps) = false) (hS : S w)
  (h : wpAnyH P md ops Q S fuel (listed.setIfInBounds i true) (a.put (some d) undef) w) : wpAnyH P md ops Q S (fuel + 1) listed a w := by
 rw [<- hd] at hQ h
 exact wpAnyH_take hi hs hf hr hQ (Or.inr ⟨hw, rfl⟩) hS h
/- the same in few words -/
theorem ty (i d : Nat) {oi : Oper} {v : Value} {fuel : Nat} {listed : Array Bool} {a a' : Act} {w : World} (hS : S w) (h : wpAnyH P md ops Q S fuel (listed.setIfInBounds i true) a' w)
  (hi : ops[i]? = some oi := by rfl) (hd : oi.dst = some d := by rfl) (hs : Region.noSelect ops = true := by kernel_rfl) (hf : Region.free md ops listed i = true := by kernel_rfl) (hr : (Region.ready md ops listed).contains i = true := by kernel_rfl)
  (hQ : ∀ c a w, Q (.panic c) (a.put (some d) v) w -> Q (.panic c) a w := by exact fun _ _ _ h => h) (hw : Region.wanted oi (yielded ops a.tmps) = true := by rfl)
  (hy : ∀ w, S w -> (execOp a.eval oi).run P w = .ok (.value v) w := by (intro w hSw; (try dsimp only at hSw); go_simp; try with_reducible rfl))
  (ha : a.put (some d) v = a' := by (simp only [Act.put, List.setIfInBounds_toArray, List.set_cons_zero, List.set_cons_succ]; rfl)) : wpAnyH P md ops Q S (fuel + 1) listed a w := by
 subst ha
 exact take_yes i d hi hd hs hf hr hQ hw hy hS h
theorem tn (i d : Nat) {oi : Oper} {fuel : Nat} {listed : Array Bool} {a a' : Act} {w : World} (hS : S w) (h : wpAnyH P md ops Q S fuel (listed.setIfInBounds i true) a' w)
  (hi : ops[i]? = some oi := by rfl) (hd : oi.dst = some d := by rfl) (hs : Region.noSelect ops = true := by kernel_rfl) (hf : Region.free md ops listed i = true := by kernel_rfl) (hr : (Region.ready md ops listed).contains i = true := by kernel_rfl)
  (hQ : ∀ c a w, Q (.panic c) (a.put (some d) undef) w -> Q (.panic c) a w := by exact fun _ _ _ h => h) (hw : Region.wanted oi (yielded ops a.tmps) = false := by rfl)
  (ha : a.put (some d) undef = a' := by (simp only [Act.put, List.setIfInBounds_toArray, List.set_cons_zero, List.set_cons_succ]; rfl)) : wpAnyH P md ops Q S (fuel + 1) listed a w := by
 subst ha
 exact take_not i d hi hd hs hf hr hQ hw hS h
end Go.Proofs.YthaadiclopoamaaGreatDoor
