/- What the proof is made of, part 6. -/
import Derived.Test.YtfobfpigbfepoaaGreatDoorTLBTexts5
import Derived.Deep.RegionHeld3
import Derived.BigQuiet
namespace Go.Proofs.YtfobfpigbfepoaaGreatDoor
open Go.RowKit
set_option maxHeartbeats 400000 in
theorem cmpD_any (x : Dm) (t : ByteArray) (w : World) : Calls Tryz.prog 51 #[.agg #[.string x.nm, .slice x.ad x.L.length x.cap], .string t] w fun e w' => e = .returned (.int .i64 (Bk.cmpE x.nm t)) ∧ Gr w w' := by
  have HC : Hid (∀ w', Calls Tryz.prog 52 #[.string x.nm, .string t] w' fun e w2 => e = .returned (.int .i64 (Bk.cmpE x.nm t)) ∧ w2 = w') := fun w' => Tryz.strings_Compare x.nm t w'
  go_enter Tryz.func51, Tryz.ntmps51
  go_wp2_with fail
  refine (HC.out _).mono ?_
  rintro e w1 ⟨rfl, hw1⟩
  obtain rfl := hw1.symm
  go_wp2
  go_ret
  exact ⟨rfl, (by repeat (first | exact Gr.refl _ | refine Gr.alloc ?_ | refine Gr.drew ?_ | refine Gr.trans ?_ (by assumption)))⟩
set_option maxHeartbeats 2000000 in
set_option maxRecDepth 100000 in
theorem searchD_any (A : List Dm) (t : ByteArray) (ad : Option Addr) (cap : Nat) (w : World) (hA : DmsAt w ad A) (hu : Bk.upB (nmD A) = true) (hn : A.length ≤ 1000000) :
    Calls Tryz.prog 50 #[.slice ad A.length cap, .string t, .func (.func 51) #[] #[]] w fun e w' => e = .returned (.tuple #[.int .i64 (Bk.pos (nmD A) t : Nat), .bool (Bk.hasB (nmD A) t)]) ∧ Gr w w' := by
  have HC : Hid (∀ (x : Dm) w', Calls Tryz.prog 51 #[.agg #[.string x.nm, .slice x.ad x.L.length x.cap], .string t] w' fun e w2 => e = .returned (.int .i64 (Bk.cmpE x.nm t)) ∧ Gr w' w2) := fun x w' => cmpD_any x t w'
  have HL : Hid (DmsAt w ad A) := hA
  have HP : Hid (∀ j (h : j < A.length), (Bk.cmpE A[j].nm t < 0 ↔ j < Bk.pos (nmD A) t)) := by
    intro j h
    have := Bk.pos_iff (nmD A) t hu j (by rw [nmD_len]; exact h)
    rw [nmD_get A j h] at this
    rw [Bk.cmp_neg, this]
  have HE : Hid (∀ q (h : q < A.length), q = Bk.pos (nmD A) t → (Bk.cmpE A[q].nm t = 0 ↔ Bk.hasB (nmD A) t = true)) := by
    intro q h hq
    subst hq
    rw [Bk.cmp_zero, Bk.has_iff]
    have hg := nmD_get A _ h
    rw [← hg]
    constructor
    · intro e; rw [← e]; exact List.getElem_mem _
    · intro hm; exact (Bk.pos_mem hu hm).2
  have HN : Hid (A.length ≤ Bk.pos (nmD A) t → Bk.hasB (nmD A) t = false) := by
    intro h
    cases hb : Bk.hasB (nmD A) t with
    | false => rfl
    | true =>
      obtain ⟨h1, _⟩ := Bk.pos_mem hu ((Bk.has_iff _ _).1 hb)
      rw [nmD_len] at h1
      omega
  have hpl : Bk.pos (nmD A) t ≤ A.length := by have := Bk.pos_le (nmD A) t; rw [nmD_len] at this; exact this
  obtain ⟨p, hp⟩ : ∃ p, p = Bk.pos (nmD A) t := ⟨_, rfl⟩
  obtain ⟨r, hr⟩ : ∃ r, r = Bk.hasB (nmD A) t := ⟨_, rfl⟩
  simp only [← hp, ← hr] at HP HE HN hpl ⊢
  clear hA hu hp hr
  go_enter Tryz.func50, Tryz.ntmps50
  go_wp2
  go_loopw [9, 10] (fun s9 s10 wr => ∃ lo hi : Nat, s9 = .int .i64 lo ∧ s10 = .int .i64 hi ∧ lo ≤ p ∧ p ≤ hi ∧ hi ≤ A.length ∧ Gr w wr) (fun s9 s10 _ => (intOf s10).toNat - (intOf s9).toNat)
  case atStart => exact ⟨0, A.length, rfl, rfl, Nat.zero_le _, hpl, Nat.le_refl _, Gr.refl _⟩
  case round =>
    obtain ⟨lo, hi, rfl, rfl, h1, h2, h3, hg⟩ := hrel
    have HG : Hid (Gr w wr) := hg
    clear hg
    by_cases hlt : lo < hi
    · have hm : (lo + hi) / 2 < A.length := by omega
      obtain ⟨b, off, rfl, hb, d0, d1⟩ := (DmsAt.at HL.out ((lo + hi) / 2) hm)
      have d0 := HG.out.keep d0
      have d1 := HG.out.keep d1
      have hbw : b < wr.heap.size := Nat.lt_of_lt_of_le hb HG.out.size
      have hP := HP.out ((lo + hi) / 2) hm
      have hc := HC.out A[(lo + hi) / 2]
      generalize A[(lo + hi) / 2] = x at *
      have HX : Hid (∀ w', Calls Tryz.prog 51 #[.agg #[.string x.nm, .slice x.ad x.L.length x.cap], .string t] w' fun e w2 => e = .returned (.int .i64 (Bk.cmpE x.nm t)) ∧ Gr w' w2) := hc
      generalize Bk.cmpE x.nm t = cv at *
      clear hc HC
      by_cases hyx : cv < 0
      · have hlp : (lo + hi) / 2 < p := hP.1 hyx
        clear hP
        go_wp2_with fail
        refine (HX.out _).mono ?_
        rintro e w2 ⟨rfl, hg2⟩
        have HG2 : Hid (Gr w w2) := HG.out.trans hg2
        go_wp2
        go_roundw
        case rel => exact ⟨(lo + hi) / 2 + 1, hi, by rw [show ((lo : Int) + (hi : Int)) / 2 + 1 = (((lo + hi) / 2 + 1 : Nat) : Int) by omega], rfl, by omega, h2, h3, HG2.out⟩
        case measure => simp [intOf]; omega
      · have hlp : ¬ (lo + hi) / 2 < p := fun h => hyx (hP.2 h)
        clear hP
        go_wp2_with fail
        refine (HX.out _).mono ?_
        rintro e w2 ⟨rfl, hg2⟩
        have HG2 : Hid (Gr w w2) := HG.out.trans hg2
        go_wp2
        go_roundw
        case rel => exact ⟨lo, (lo + hi) / 2, rfl, by rw [show ((lo : Int) + (hi : Int)) / 2 = (((lo + hi) / 2 : Nat) : Int) by omega], h1, by omega, by omega, HG2.out⟩
        case measure => simp [intOf]; omega
    · obtain rfl : lo = p := by omega
      by_cases hin : lo < A.length
      · obtain ⟨b, off, rfl, hb, d0, d1⟩ := (DmsAt.at HL.out lo hin)
        have d0 := HG.out.keep d0
        have d1 := HG.out.keep d1
        have hbw : b < wr.heap.size := Nat.lt_of_lt_of_le hb HG.out.size
        have hE := HE.out lo hin rfl
        have hc := HC.out A[lo]
        generalize A[lo] = x at *
        have HX : Hid (∀ w', Calls Tryz.prog 51 #[.agg #[.string x.nm, .slice x.ad x.L.length x.cap], .string t] w' fun e w2 => e = .returned (.int .i64 (Bk.cmpE x.nm t)) ∧ Gr w' w2) := hc
        generalize Bk.cmpE x.nm t = cv at *
        clear hc HC
        have hini : (lo : Int) < (A.length : Int) := by omega
        cases r with
        | true =>
          obtain rfl : cv = 0 := hE.2 rfl
          clear hE
          go_wp2_with fail
          refine (HX.out _).mono ?_
          rintro e w2 ⟨rfl, hg2⟩
          have HG2 : Hid (Gr w w2) := HG.out.trans hg2
          go_wp2
          go_ret2
          exact ⟨rfl, HG2.out⟩
        | false =>
          have hcv : (cv == 0) = false := by
            simp only [beq_eq_false_iff_ne, ne_eq]
            intro e
            have := hE.1 e
            cases this
          clear hE
          go_wp2_with fail
          refine (HX.out _).mono ?_
          rintro e w2 ⟨rfl, hg2⟩
          have HG2 : Hid (Gr w w2) := HG.out.trans hg2
          go_wp2
          go_ret2
          exact ⟨rfl, HG2.out⟩
      · obtain rfl : r = false := HN.out (by omega)
        have hini : ¬ (lo : Int) < (A.length : Int) := by omega
        go_wp2
        go_ret2
        exact ⟨rfl, HG.out⟩
set_option maxHeartbeats 400000 in
theorem place_any (A : List Dm) (t : ByteArray) (ad : Option Addr) (cap : Nat) (w : World) (hA : DmsAt w ad A) (hu : Bk.upB (nmD A) = true) (hn : A.length ≤ 1000000) :
    Calls Tryz.prog 27 #[.slice ad A.length cap, .string t] w fun e w' => e = .returned (.tuple #[.int .i64 (Bk.pos (nmD A) t : Nat), .bool (Bk.hasB (nmD A) t)]) ∧ Gr w w' := by
  have HS : Hid (∀ w', Gr w w' → Calls Tryz.prog 50 #[.slice ad A.length cap, .string t, .func (.func 51) #[] #[]] w' fun e w2 => e = .returned (.tuple #[.int .i64 (Bk.pos (nmD A) t : Nat), .bool (Bk.hasB (nmD A) t)]) ∧ Gr w' w2) := fun w' g => searchD_any A t ad cap w' (hA.gr g) hu hn
  clear hA hu
  generalize Bk.pos (nmD A) t = p at *
  generalize Bk.hasB (nmD A) t = r at *
  go_enter Tryz.func27, Tryz.ntmps27
  go_wp2_with fail
  refine (HS.out _ (Gr.refl _)).mono ?_
  rintro e w1 ⟨rfl, hg1⟩
  go_wp2
  go_ret2
  exact ⟨rfl, hg1⟩
end Go.Proofs.YtfobfpigbfepoaaGreatDoor
namespace Go.Proofs.YtfobfpigbfepoaaGreatDoor
open Go.RowKit
theorem aLetter_any (b : UInt8) (w : World) : Calls Tryz.prog 84 #[.int .u8 (b.toNat : Int)] w fun e w' => e = .returned (.bool (Act.letB b)) ∧ w' = w := by
  unfold Act.letB
  by_cases h0 : (97 : Int) ≤ (b.toNat : Int)
  · by_cases h1 : (b.toNat : Int) ≤ 122
    · rw [decide_eq_true h0, decide_eq_true h1]
      go_enter Tryz.func84, Tryz.ntmps84
      go_wp2
      go_ret
      exact ⟨rfl, rfl⟩
    · rw [decide_eq_true h0, decide_eq_false h1]
      go_enter Tryz.func84, Tryz.ntmps84
      go_wp2
      go_ret
      exact ⟨rfl, rfl⟩
  · rw [decide_eq_false h0]
    go_enter Tryz.func84, Tryz.ntmps84
    go_wp2
    go_ret
    exact ⟨rfl, rfl⟩
theorem aDigit_any (b : UInt8) (w : World) : Calls Tryz.prog 85 #[.int .u8 (b.toNat : Int)] w fun e w' => e = .returned (.bool (Act.digB b)) ∧ w' = w := by
  unfold Act.digB
  by_cases h0 : (48 : Int) ≤ (b.toNat : Int)
  · by_cases h1 : (b.toNat : Int) ≤ 57
    · rw [decide_eq_true h0, decide_eq_true h1]
      go_enter Tryz.func85, Tryz.ntmps85
      go_wp2
      go_ret
      exact ⟨rfl, rfl⟩
    · rw [decide_eq_true h0, decide_eq_false h1]
      go_enter Tryz.func85, Tryz.ntmps85
      go_wp2
      go_ret
      exact ⟨rfl, rfl⟩
  · rw [decide_eq_false h0]
    go_enter Tryz.func85, Tryz.ntmps85
    go_wp2
    go_ret
    exact ⟨rfl, rfl⟩
set_option maxHeartbeats 4000000 in
set_option maxRecDepth 100000 in
theorem name_any (s : ByteArray) (w : World) (hs : s.size ≤ 9223372036854775807) : Calls Tryz.prog 55 #[.string s] w fun e w' => e = .returned (.bool (Act.nameB s)) ∧ w' = w := by
  by_cases hz : s.size = 0
  · have HE : Hid (Act.nameB s = false) := Act.name_empty s hz
    have hb : (s.toList == []) = true := by
      rw [show s.toList = s.data.toList from ByteArray.toList_eq s]
      have hl : s.data.toList.length = s.size := by simp
      rw [List.length_eq_zero_iff.1 (hl.trans hz)]; rfl
    go_enter Tryz.func55, Tryz.ntmps55
    go_wp2
    go_ret
    exact ⟨by rw [HE.out]; rfl, rfl⟩
  have hb : (s.toList == []) = false := by
    rw [show s.toList = s.data.toList from ByteArray.toList_eq s]
    have hl : s.data.toList.length = s.size := by simp
    rw [beq_eq_false_iff_ne]
    intro e; rw [e] at hl; simp at hl; omega
  have hp : 0 < s.size := by omega
  by_cases h16 : (16 : Int) < (s.size : Int)
  · have HE : Hid (Act.nameB s = false) := Act.name_long s (by omega)
    go_enter Tryz.func55, Tryz.ntmps55
    go_wp2
    go_ret
    exact ⟨by rw [HE.out]; rfl, rfl⟩
  have HL : Hid (∀ (b : UInt8) (w : World), Calls Tryz.prog 84 #[.int .u8 (b.toNat : Int)] w fun e w' => e = .returned (.bool (Act.letB b)) ∧ w' = w) := aLetter_any
  have HD : Hid (∀ (b : UInt8) (w : World), Calls Tryz.prog 85 #[.int .u8 (b.toNat : Int)] w fun e w' => e = .returned (.bool (Act.digB b)) ∧ w' = w) := aDigit_any
  cases h0 : Act.letB (s[0]'hp) with
  | false =>
    have HE : Hid (Act.nameB s = false) := Act.name_head s hp h0
    go_enter Tryz.func55, Tryz.ntmps55
    go_wp2_with fail
    refine (HL.out (s[0]'hp) _).mono ?_
    rintro e w1 ⟨rfl, hw1⟩; obtain rfl := hw1.symm
    go_wp2
    go_ret
    exact ⟨by rw [HE.out]; rfl, rfl⟩
  | true =>
    go_enter Tryz.func55, Tryz.ntmps55
    go_wp2_with fail
    refine (HL.out (s[0]'hp) _).mono ?_
    rintro e w1 ⟨rfl, hw1⟩; obtain rfl := hw1.symm
    go_wp2
    go_loop [19] (fun i => ∃ k : Nat, k ≤ s.size ∧ i = .int .i64 k ∧ ∀ j (hj : j < s.size), j < k → Act.sgnB (s[j]'hj) = true) (fun i => s.size - (intOf i).toNat)
    case atStart => exact ⟨0, by omega, rfl, fun j hj h => absurd h (by omega)⟩
    case round =>
      obtain ⟨k, hk, rfl, hall⟩ := hrel
      have HA : Hid (∀ j (hj : j < s.size), j < k → Act.sgnB (s[j]'hj) = true) := hall
      clear hall
      by_cases hlt : k < s.size
      · cases hlk : Act.letB (s[k]'hlt) with
        | true =>
          have HS : Hid (Act.sgnB (s[k]'hlt) = true) := Act.sgn_let hlk
          go_wp2_with fail
          refine (HL.out (s[k]'hlt) _).mono ?_
          rintro e w1 ⟨rfl, hw1⟩; obtain rfl := hw1.symm
          go_wp2
          go_round
          case rel => exact ⟨k + 1, by omega, by go_num, fun j hj h => if e : j = k then by subst e; exact HS.out else HA.out j hj (by omega)⟩
          case measure => simp [intOf]; omega
        | false =>
          cases hdk : Act.digB (s[k]'hlt) with
          | true =>
            have HS : Hid (Act.sgnB (s[k]'hlt) = true) := Act.sgn_dig hdk
            go_wp2_with fail
            refine (HL.out (s[k]'hlt) _).mono ?_
            rintro e w1 ⟨rfl, hw1⟩; obtain rfl := hw1.symm
            go_wp2_with fail
            refine (HD.out (s[k]'hlt) _).mono ?_
            rintro e w1 ⟨rfl, hw1⟩; obtain rfl := hw1.symm
            go_wp2
            go_round
            case rel => exact ⟨k + 1, by omega, by go_num, fun j hj h => if e : j = k then by subst e; exact HS.out else HA.out j hj (by omega)⟩
            case measure => simp [intOf]; omega
          | false =>
            have HE : Hid (Act.nameB s = false) := Act.name_sign s k hlt (Act.sgn_no hlk hdk)
            go_wp2_with fail
            refine (HL.out (s[k]'hlt) _).mono ?_
            rintro e w1 ⟨rfl, hw1⟩; obtain rfl := hw1.symm
            go_wp2_with fail
            refine (HD.out (s[k]'hlt) _).mono ?_
            rintro e w1 ⟨rfl, hw1⟩; obtain rfl := hw1.symm
            go_wp2
            go_ret
            exact ⟨by rw [HE.out]; rfl, rfl⟩
      · have HE : Hid (Act.nameB s = true) := Act.name_yes s hp (by omega) h0 (fun j hj => HA.out j hj (by omega))
        go_wp2
        go_ret
        exact ⟨by rw [HE.out]; rfl, rfl⟩
end Go.Proofs.YtfobfpigbfepoaaGreatDoor
namespace Go.Proofs.YtfobfpigbfepoaaGreatDoor
open Go.RowKit
theorem let_parts {b : UInt8} (h : Act.letB b = true) : (97 : Int) ≤ (b.toNat : Int) ∧ (b.toNat : Int) ≤ 122 := by
  unfold Act.letB at h; simpa only [Bool.and_eq_true, decide_eq_true_eq] using h
theorem dig_parts {b : UInt8} (h : Act.digB b = true) : (48 : Int) ≤ (b.toNat : Int) ∧ (b.toNat : Int) ≤ 57 := by
  unfold Act.digB at h; simpa only [Bool.and_eq_true, decide_eq_true_eq] using h
set_option maxHeartbeats 4000000 in
set_option maxRecDepth 100000 in
theorem refName_any (s : ByteArray) (w : World) (hs : s.size ≤ 9223372036854775807) : Calls Tryz.prog 43 #[.string s] w fun e w' => e = .returned (.bool (Act.nameB s)) ∧ w' = w := by
  by_cases hz : (s.size : Int) < 1
  · have HE : Hid (Act.nameB s = false) := Act.name_empty s (by omega)
    go_enter Tryz.func43, Tryz.ntmps43
    go_wp2
    go_ret
    exact ⟨by rw [HE.out]; rfl, rfl⟩
  have hp : 0 < s.size := by omega
  by_cases h16 : (16 : Int) < (s.size : Int)
  · have HE : Hid (Act.nameB s = false) := Act.name_long s (by omega)
    go_enter Tryz.func43, Tryz.ntmps43
    go_wp2
    go_ret
    exact ⟨by rw [HE.out]; rfl, rfl⟩
  go_enter Tryz.func43, Tryz.ntmps43
  go_wp2
  go_loop [3] (fun i => ∃ k : Nat, k ≤ s.size ∧ i = .int .i64 k ∧ (0 < k → Act.letB (s[0]'hp) = true) ∧ ∀ j (hj : j < s.size), j < k → Act.sgnB (s[j]'hj) = true) (fun i => s.size - (intOf i).toNat)
  case atStart => exact ⟨0, by omega, rfl, fun h => absurd h (by omega), fun j hj h => absurd h (by omega)⟩
  case round =>
    obtain ⟨k, hk, rfl, hfirst, hall⟩ := hrel
    have HA : Hid (∀ j (hj : j < s.size), j < k → Act.sgnB (s[j]'hj) = true) := hall
    have HF : Hid (0 < k → Act.letB (s[0]'hp) = true) := hfirst
    clear hall hfirst
    by_cases hlt : k < s.size
    · cases hlk : Act.letB (s[k]'hlt) with
      | true =>
        have HS : Hid (Act.sgnB (s[k]'hlt) = true) := Act.sgn_let hlk
        have HK : Hid (Act.letB (s[k]'hlt) = true) := hlk
        obtain ⟨h1, h2⟩ := let_parts hlk
        have h3 : ¬ (((s[k]'hlt).toNat : Int) ≤ 57) := by omega
        have h4 : (48 : Int) ≤ ((s[k]'hlt).toNat : Int) := by omega
        clear hlk
        obtain ⟨b, hb⟩ : ∃ b, s[k]'hlt = b := ⟨_, rfl⟩
        have hb' : ((s[k]'hlt).toNat : Int) = (b.toNat : Int) := by rw [hb]
        rw [hb] at h1 h2 h3 h4
        clear hb
        by_cases hk0 : k = 0
        · subst hk0
          go_wp2
          go_round
          case rel => exact ⟨0 + 1, by omega, by go_num, fun _ => HK.out, fun j hj h => if e : j = 0 then by subst e; exact HS.out else HA.out j hj (by omega)⟩
          case measure => simp [intOf]; omega
        · have hk1 : ((k : Int) == 0) = false := by rw [beq_eq_false_iff_ne]; omega
          go_wp2
          go_round
          case rel => exact ⟨k + 1, by omega, by go_num, fun _ => HF.out (by omega), fun j hj h => if e : j = k then by subst e; exact HS.out else HA.out j hj (by omega)⟩
          case measure => simp [intOf]; omega
      | false =>
        cases hdk : Act.digB (s[k]'hlt) with
        | true =>
          have HS : Hid (Act.sgnB (s[k]'hlt) = true) := Act.sgn_dig hdk
          obtain ⟨h1, h2⟩ := dig_parts hdk
          have h3 : ¬ ((97 : Int) ≤ ((s[k]'hlt).toNat : Int)) := by omega
          have HK : Hid (Act.letB (s[k]'hlt) = false) := hlk
          clear hlk hdk
          obtain ⟨b, hb⟩ : ∃ b, s[k]'hlt = b := ⟨_, rfl⟩
          have hb' : ((s[k]'hlt).toNat : Int) = (b.toNat : Int) := by rw [hb]
          rw [hb] at h1 h2 h3
          clear hb
          by_cases hk0 : k = 0
          · subst hk0
            have HE : Hid (Act.nameB s = false) := Act.name_head s hp HK.out
            go_wp2
            go_ret
            exact ⟨by rw [HE.out]; rfl, rfl⟩
          · have hk1 : ((k : Int) == 0) = false := by rw [beq_eq_false_iff_ne]; omega
            go_wp2
            go_round
            case rel => exact ⟨k + 1, by omega, by go_num, fun _ => HF.out (by omega), fun j hj h => if e : j = k then by subst e; exact HS.out else HA.out j hj (by omega)⟩
            case measure => simp [intOf]; omega
        | false =>
          have HE : Hid (Act.nameB s = false) := Act.name_sign s k hlt (Act.sgn_no hlk hdk)
          obtain ⟨x, hx⟩ : ∃ x, Act.letB (s[k]'hlt) = x := ⟨_, rfl⟩
          have hx1 : (decide ((97 : Int) ≤ ((s[k]'hlt).toNat : Int)) && decide (((s[k]'hlt).toNat : Int) ≤ 122)) = false := hlk
          have hx2 : (decide ((48 : Int) ≤ ((s[k]'hlt).toNat : Int)) && decide (((s[k]'hlt).toNat : Int) ≤ 57)) = false := hdk
          clear hlk hdk hx
          obtain ⟨b, hb⟩ : ∃ b, s[k]'hlt = b := ⟨_, rfl⟩
          have hb' : ((s[k]'hlt).toNat : Int) = (b.toNat : Int) := by rw [hb]
          rw [hb] at hx1 hx2
          clear hb
          have hor : ((b.toNat : Int) < 48 ∨ (57 < (b.toNat : Int) ∧ (b.toNat : Int) < 97)) ∨ 122 < (b.toNat : Int) := by
            simp only [Bool.and_eq_false_iff, decide_eq_false_iff_not] at hx1 hx2
            omega
          clear hx1 hx2
          rcases hor with (h1 | ⟨h1, h2⟩) | h1
          · have k1 : ¬ ((97 : Int) ≤ (b.toNat : Int)) := by omega
            have k2 : ¬ ((48 : Int) ≤ (b.toNat : Int)) := by omega
            clear h1
            go_wp2
            go_ret
            exact ⟨by rw [HE.out]; rfl, rfl⟩
          · have k1 : ¬ ((97 : Int) ≤ (b.toNat : Int)) := by omega
            have k2 : (48 : Int) ≤ (b.toNat : Int) := by omega
            have k3 : ¬ ((b.toNat : Int) ≤ 57) := by omega
            clear h1 h2
            go_wp2
            go_ret
            exact ⟨by rw [HE.out]; rfl, rfl⟩
          · have k1 : (97 : Int) ≤ (b.toNat : Int) := by omega
            have k2 : (48 : Int) ≤ (b.toNat : Int) := by omega
            have k3 : ¬ ((b.toNat : Int) ≤ 57) := by omega
            have k4 : ¬ ((b.toNat : Int) ≤ 122) := by omega
            clear h1
            go_wp2
            go_ret
            exact ⟨by rw [HE.out]; rfl, rfl⟩
    · have HE : Hid (Act.nameB s = true) := Act.name_yes s hp (by omega) (HF.out (by omega)) (fun j hj => HA.out j hj (by omega))
      go_wp2
      go_ret
      exact ⟨by rw [HE.out]; rfl, rfl⟩
end Go.Proofs.YtfobfpigbfepoaaGreatDoor
namespace Go.Proofs.YtfobfpigbfepoaaGreatDoor
open Go.RowKit
theorem fits_any (a : Int) (w : World) :
    Calls Tryz.prog 103 #[.int .i64 a] w fun e w' => e = .returned (.bool (decide (0 ≤ a) && decide (a ≤ 1000000000000000))) ∧ w' = w := by
  by_cases h0 : 0 ≤ a
  · by_cases h1 : a ≤ 1000000000000000
    · have HF : Hid ((decide (0 ≤ a) && decide (a ≤ 1000000000000000)) = true) := by show _ = _; simp [h0, h1]
      rw [HF.out]
      go_enter Tryz.func103, Tryz.ntmps103
      go_wp2
      go_ret
      exact ⟨rfl, rfl⟩
    · have HF : Hid ((decide (0 ≤ a) && decide (a ≤ 1000000000000000)) = false) := by show _ = _; simp [h1]
      rw [HF.out]
      go_enter Tryz.func103, Tryz.ntmps103
      go_wp2
      go_ret
      exact ⟨rfl, rfl⟩
  · have HF : Hid ((decide (0 ≤ a) && decide (a ≤ 1000000000000000)) = false) := by show _ = _; simp [h0]
    rw [HF.out]
    go_enter Tryz.func103, Tryz.ntmps103
    go_wp2
    go_ret
    exact ⟨rfl, rfl⟩
end Go.Proofs.YtfobfpigbfepoaaGreatDoor
namespace Go.Proofs.YtfobfpigbfepoaaGreatDoor
open Go.RowKit
set_option maxHeartbeats 1000000 in
theorem actCheck_any (k n : Int) (s : ByteArray) (w : World) (hs : s.size ≤ 9223372036854775807) :
    Calls Tryz.prog 86 #[.agg #[.int .i64 k, .string s, .int .i64 n]] w fun e w' => e = .returned (.int .i64 (Act.chkE k s n)) ∧ Gr w w' := by
  have HN : Hid (∀ w', Calls Tryz.prog 55 #[.string s] w' fun e w2 => e = .returned (.bool (Act.nameB s)) ∧ w2 = w') := fun w' => name_any s w' hs
  have HF : Hid (∀ w', Calls Tryz.prog 103 #[.int .i64 n] w' fun e w2 => e = .returned (.bool (decide (0 ≤ n) && decide (n ≤ 1000000000000000))) ∧ w2 = w') := fun w' => fits_any n w'
  cases hb : Act.actB k s n with
  | true =>
    obtain ⟨⟨h1, h2⟩, h3, h4, h5⟩ := (Act.act_iff k s n).1 hb
    rw [Act.chk_yes hb]
    rw [h3] at HN
    rw [show (decide (0 ≤ n) && decide (n ≤ 1000000000000000)) = true by simp; omega] at HF
    have k1 : ¬ k < 1 := by omega
    have k2 : ¬ 4 < k := by omega
    have k3 : ¬ n < 1 := by omega
    have k4 : ¬ 1000000000000000 < n := by omega
    clear hb h3 hs
    go_enter Tryz.func86, Tryz.ntmps86
    go_wp2_with fail
    refine (HN.out _).mono ?_
    rintro e w1 ⟨rfl, hw1⟩; obtain rfl := hw1.symm
    go_wp2_with fail
    refine (HF.out _).mono ?_
    rintro e w1 ⟨rfl, hw1⟩; obtain rfl := hw1.symm
    go_wp2
    go_ret
    exact ⟨rfl, (by repeat (first | exact Gr.refl _ | refine Gr.alloc ?_ | refine Gr.drew ?_ | refine Gr.trans ?_ (by assumption)))⟩
  | false =>
    rw [Act.chk_no hb]
    have hno : ¬ ((1 ≤ k ∧ k ≤ 4) ∧ Act.nameB s = true ∧ 1 ≤ n ∧ n ≤ 1000000000000000) := fun h => by rw [(Act.act_iff k s n).2 h] at hb; cases hb
    clear hb hs
    by_cases h1 : 1 ≤ k
    · have k1 : ¬ k < 1 := by omega
      by_cases h2 : k ≤ 4
      · have k2 : ¬ 4 < k := by omega
        cases h3 : Act.nameB s with
        | false =>
          rw [h3] at HN
          clear hno h3
          go_enter Tryz.func86, Tryz.ntmps86
          go_wp2_with fail
          refine (HN.out _).mono ?_
          rintro e w1 ⟨rfl, hw1⟩; obtain rfl := hw1.symm
          go_wp2
          go_ret
          exact ⟨rfl, (by repeat (first | exact Gr.refl _ | refine Gr.alloc ?_ | refine Gr.drew ?_ | refine Gr.trans ?_ (by assumption)))⟩
        | true =>
          rw [h3] at HN
          by_cases h4 : n < 1
          · clear hno h3
            go_enter Tryz.func86, Tryz.ntmps86
            go_wp2_with fail
            refine (HN.out _).mono ?_
            rintro e w1 ⟨rfl, hw1⟩; obtain rfl := hw1.symm
            go_wp2
            go_ret
            exact ⟨rfl, (by repeat (first | exact Gr.refl _ | refine Gr.alloc ?_ | refine Gr.drew ?_ | refine Gr.trans ?_ (by assumption)))⟩
          · have k4 : 1000000000000000 < n := by
              by_cases h5 : 1000000000000000 < n
              · exact h5
              · exact absurd ⟨⟨h1, h2⟩, h3, by omega, by omega⟩ hno
            rw [show (decide (0 ≤ n) && decide (n ≤ 1000000000000000)) = false by simp; omega] at HF
            clear hno h3
            go_enter Tryz.func86, Tryz.ntmps86
            go_wp2_with fail
            refine (HN.out _).mono ?_
            rintro e w1 ⟨rfl, hw1⟩; obtain rfl := hw1.symm
            go_wp2_with fail
            refine (HF.out _).mono ?_
            rintro e w1 ⟨rfl, hw1⟩; obtain rfl := hw1.symm
            go_wp2
            go_ret
            exact ⟨rfl, (by repeat (first | exact Gr.refl _ | refine Gr.alloc ?_ | refine Gr.drew ?_ | refine Gr.trans ?_ (by assumption)))⟩
      · have k2 : 4 < k := by omega
        clear hno HN HF
        go_enter Tryz.func86, Tryz.ntmps86
        go_wp2
        go_ret
        exact ⟨rfl, (by repeat (first | exact Gr.refl _ | refine Gr.alloc ?_ | refine Gr.drew ?_ | refine Gr.trans ?_ (by assumption)))⟩
    · have k1 : k < 1 := by omega
      clear hno HN HF
      go_enter Tryz.func86, Tryz.ntmps86
      go_wp2
      go_ret
      exact ⟨rfl, (by repeat (first | exact Gr.refl _ | refine Gr.alloc ?_ | refine Gr.drew ?_ | refine Gr.trans ?_ (by assumption)))⟩
set_option maxHeartbeats 1000000 in
theorem refActCheck_any (k n : Int) (s : ByteArray) (w : World) (hs : s.size ≤ 9223372036854775807) :
    Calls Tryz.prog 90 #[.agg #[.int .i64 k, .string s, .int .i64 n]] w fun e w' => e = .returned (.int .i64 (Act.chkE k s n)) ∧ Gr w w' := by
  have HN : Hid (∀ w', Calls Tryz.prog 43 #[.string s] w' fun e w2 => e = .returned (.bool (Act.nameB s)) ∧ w2 = w') := fun w' => refName_any s w' hs
  cases hb : Act.actB k s n with
  | true =>
    obtain ⟨⟨h1, h2⟩, h3, h4, h5⟩ := (Act.act_iff k s n).1 hb
    rw [Act.chk_yes hb]
    rw [h3] at HN
    have k1 : ¬ k < 1 := by omega
    have k2 : ¬ 4 < k := by omega
    have k3 : ¬ n < 1 := by omega
    have k4 : ¬ 1000000000000000 < n := by omega
    clear hb h3 hs
    go_enter Tryz.func90, Tryz.ntmps90
    go_wp2_with fail
    refine (HN.out _).mono ?_
    rintro e w1 ⟨rfl, hw1⟩; obtain rfl := hw1.symm
    go_wp2
    go_ret
    exact ⟨rfl, (by repeat (first | exact Gr.refl _ | refine Gr.alloc ?_ | refine Gr.drew ?_ | refine Gr.trans ?_ (by assumption)))⟩
  | false =>
    rw [Act.chk_no hb]
    have hno : ¬ ((1 ≤ k ∧ k ≤ 4) ∧ Act.nameB s = true ∧ 1 ≤ n ∧ n ≤ 1000000000000000) := fun h => by rw [(Act.act_iff k s n).2 h] at hb; cases hb
    clear hb hs
    by_cases h1 : 1 ≤ k
    · have k1 : ¬ k < 1 := by omega
      by_cases h2 : k ≤ 4
      · have k2 : ¬ 4 < k := by omega
        cases h3 : Act.nameB s with
        | false =>
          rw [h3] at HN
          clear hno h3
          go_enter Tryz.func90, Tryz.ntmps90
          go_wp2_with fail
          refine (HN.out _).mono ?_
          rintro e w1 ⟨rfl, hw1⟩; obtain rfl := hw1.symm
          go_wp2
          go_ret
          exact ⟨rfl, (by repeat (first | exact Gr.refl _ | refine Gr.alloc ?_ | refine Gr.drew ?_ | refine Gr.trans ?_ (by assumption)))⟩
        | true =>
          rw [h3] at HN
          by_cases h4 : n < 1
          · clear hno h3
            go_enter Tryz.func90, Tryz.ntmps90
            go_wp2_with fail
            refine (HN.out _).mono ?_
            rintro e w1 ⟨rfl, hw1⟩; obtain rfl := hw1.symm
            go_wp2
            go_ret
            exact ⟨rfl, (by repeat (first | exact Gr.refl _ | refine Gr.alloc ?_ | refine Gr.drew ?_ | refine Gr.trans ?_ (by assumption)))⟩
          · have k4 : 1000000000000000 < n := by
              by_cases h5 : 1000000000000000 < n
              · exact h5
              · exact absurd ⟨⟨h1, h2⟩, h3, by omega, by omega⟩ hno
            clear hno h3
            go_enter Tryz.func90, Tryz.ntmps90
            go_wp2_with fail
            refine (HN.out _).mono ?_
            rintro e w1 ⟨rfl, hw1⟩; obtain rfl := hw1.symm
            go_wp2
            go_ret
            exact ⟨rfl, (by repeat (first | exact Gr.refl _ | refine Gr.alloc ?_ | refine Gr.drew ?_ | refine Gr.trans ?_ (by assumption)))⟩
      · have k2 : 4 < k := by omega
        clear hno HN
        go_enter Tryz.func90, Tryz.ntmps90
        go_wp2
        go_ret
        exact ⟨rfl, (by repeat (first | exact Gr.refl _ | refine Gr.alloc ?_ | refine Gr.drew ?_ | refine Gr.trans ?_ (by assumption)))⟩
    · have k1 : k < 1 := by omega
      clear hno HN
      go_enter Tryz.func90, Tryz.ntmps90
      go_wp2
      go_ret
      exact ⟨rfl, (by repeat (first | exact Gr.refl _ | refine Gr.alloc ?_ | refine Gr.drew ?_ | refine Gr.trans ?_ (by assumption)))⟩
end Go.Proofs.YtfobfpigbfepoaaGreatDoor
namespace Go.Proofs.YtfobfpigbfepoaaGreatDoor
open Go.RowKit
structure AccAt (w : World) (g : Nat) (a b c d e f h : Value) : Prop where
  c0 : w.cell? ⟨g, 0, none⟩ = some a
  c1 : w.cell? ⟨g, 1, none⟩ = some b
  c2 : w.cell? ⟨g, 2, none⟩ = some c
  c3 : w.cell? ⟨g, 3, none⟩ = some d
  c4 : w.cell? ⟨g, 4, none⟩ = some e
  c5 : w.cell? ⟨g, 5, none⟩ = some f
  c6 : w.cell? ⟨g, 6, none⟩ = some h
  fz : ∀ i, i < 7 → w.frozen? ⟨g, i, none⟩ = false
  lt : g < w.heap.size
theorem AccAt.cells {w : World} {g : Nat} {a b c d e f h : Value} (x : AccAt w g a b c d e f h) :
    w.cell? ⟨g, 0, none⟩ = some a ∧ w.cell? ⟨g, 1, none⟩ = some b ∧ w.cell? ⟨g, 2, none⟩ = some c ∧ w.cell? ⟨g, 3, none⟩ = some d ∧ w.cell? ⟨g, 4, none⟩ = some e ∧ w.cell? ⟨g, 5, none⟩ = some f ∧ w.cell? ⟨g, 6, none⟩ = some h :=
  ⟨x.c0, x.c1, x.c2, x.c3, x.c4, x.c5, x.c6⟩
theorem AccAt.frozens {w : World} {g : Nat} {a b c d e f h : Value} (x : AccAt w g a b c d e f h) :
    w.frozen? ⟨g, 0, none⟩ = false ∧ w.frozen? ⟨g, 1, none⟩ = false ∧ w.frozen? ⟨g, 2, none⟩ = false ∧ w.frozen? ⟨g, 3, none⟩ = false ∧ w.frozen? ⟨g, 4, none⟩ = false ∧ w.frozen? ⟨g, 5, none⟩ = false ∧ w.frozen? ⟨g, 6, none⟩ = false :=
  ⟨x.fz 0 (by omega), x.fz 1 (by omega), x.fz 2 (by omega), x.fz 3 (by omega), x.fz 4 (by omega), x.fz 5 (by omega), x.fz 6 (by omega)⟩
theorem AccAt.gr {w w' : World} {g : Nat} {a b c d e f h : Value} (x : AccAt w g a b c d e f h) (k : Gr w w') : AccAt w' g a b c d e f h :=
  ⟨k.keep x.c0, k.keep x.c1, k.keep x.c2, k.keep x.c3, k.keep x.c4, k.keep x.c5, k.keep x.c6, fun i hi => k.keepF x.lt (x.fz i hi), Nat.lt_of_lt_of_le x.lt k.size⟩
theorem AccAt.new (w : World) (a b c d e f h : Value) (t : TypeId) (g : Nat) (hg : g = w.heap.size) : AccAt (w.alloc (.cells #[a, b, c, d, e, f, h] t)) g a b c d e f h := by
  subst hg
  exact ⟨by simp, by simp, by simp, by simp, by simp, by simp, by simp, fun i hi => by simp [go_sem], by simp⟩
def RoomB (w : World) (g : Nat) : Prop := ∃ a b c d e f h, AccAt w g a b c d e f h
theorem RoomB.gr {w w' : World} {g : Nat} (x : RoomB w g) (k : Gr w w') : RoomB w' g := by
  obtain ⟨a, b, c, d, e, f, h, x⟩ := x
  exact ⟨a, b, c, d, e, f, h, x.gr k⟩
theorem RoomB.drew {w : World} {g : Nat} (x : RoomB w g) : RoomB w.drew g := x.gr (Gr.refl _).drew
end Go.Proofs.YtfobfpigbfepoaaGreatDoor
namespace Go.Proofs.YtfobfpigbfepoaaGreatDoor
open Go.RowKit
open Df (Stp ownB askB stpB zerB)
open _root_.Go.Proofs.YtfobfpigbfepoaaGreatDoor.Act (nameB actB chkE)
def inI (n : Int) : Prop := -9223372036854775808 ≤ n ∧ n ≤ 9223372036854775807
def inS (s : Stp) : Prop := s.a.size ≤ 9223372036854775807 ∧ s.u.size ≤ 9223372036854775807 ∧ inI s.k ∧ inI s.n ∧ inI s.o ∧ inI s.y ∧ inI s.v
theorem within_any (n a b : Int) (w : World) : Calls Tryz.prog 56 #[.int .i64 n, .int .i64 a, .int .i64 b] w fun e w' => e = .returned (.bool (decide (a ≤ n) && decide (n ≤ b))) ∧ w' = w := by
  by_cases h0 : a ≤ n
  · by_cases h1 : n ≤ b
    · rw [decide_eq_true h0, decide_eq_true h1]
      go_enter Tryz.func56, Tryz.ntmps56
      go_wp2
      go_ret
      exact ⟨rfl, rfl⟩
    · rw [decide_eq_true h0, decide_eq_false h1]
      go_enter Tryz.func56, Tryz.ntmps56
      go_wp2
      go_ret
      exact ⟨rfl, rfl⟩
  · rw [decide_eq_false h0]
    go_enter Tryz.func56, Tryz.ntmps56
    go_wp2
    go_ret
    exact ⟨rfl, rfl⟩
set_option maxHeartbeats 4000000 in
set_option maxRecDepth 100000 in
theorem isOwn_any (s : Stp) (w : World) (hs : inS s) : Calls Tryz.prog 57 #[.agg #[.int .i64 s.k, .string s.a, .int .i64 s.n, .int .i64 s.o, .string s.u, .int .i64 s.y, .int .i64 s.v]] w fun e w' => e = .returned (.bool (ownB s)) ∧ Gr w w' := by
  have HC : Hid (∀ w', Calls Tryz.prog 86 #[.agg #[.int .i64 s.k, .string s.a, .int .i64 s.n]] w' fun e w2 => e = .returned (.int .i64 (chkE s.k s.a s.n)) ∧ Gr w' w2) := fun w' => actCheck_any s.k s.n s.a w' hs.1
  have HW : Hid (∀ w', Calls Tryz.prog 56 #[.int .i64 s.y, .int .i64 1, .int .i64 5] w' fun e w2 => e = .returned (.bool (decide (1 ≤ s.y) && decide (s.y ≤ 5))) ∧ w2 = w') := fun w' => within_any s.y 1 5 w'
  have ht := text_eq s.u []
  rw [show (⟨[].toArray⟩ : ByteArray) = ⟨#[]⟩ from rfl] at ht
  have HB : Hid (ownB s = (decide (s.u = ⟨#[]⟩) && actB s.k s.a s.n && decide (s.o = 0) && decide (s.v = 0) && (decide (1 ≤ s.y) && decide (s.y ≤ 5)))) := rfl
  have HE : Hid (chkE s.k s.a s.n = if actB s.k s.a s.n = true then 0 else 60) := rfl
  clear hs
  generalize ownB s = OB at *
  generalize (decide (1 ≤ s.y) && decide (s.y ≤ 5)) = YB at *
  generalize chkE s.k s.a s.n = CE at *
  generalize actB s.k s.a s.n = AB at *
  by_cases h1 : s.u = ⟨#[]⟩
  · rw [decide_eq_true h1] at ht HB
    have ht2 : (s.u.toList == []) = true := ht
    clear ht
    cases AB with
    | true =>
      have e2 : CE = 0 := HE.out
      subst e2
      by_cases h3 : s.o = 0
      · rw [decide_eq_true h3] at HB
        have e3 : (s.o == 0) = true := by simpa using h3
        by_cases h4 : s.v = 0
        · rw [decide_eq_true h4] at HB
          have e4 : (s.v == 0) = true := by simpa using h4
          have HF : Hid (OB = YB) := HB.out
          clear h1 h3 h4 HB HE
          go_enter Tryz.func57, Tryz.ntmps57
          go_wp2_with fail
          refine (HC.out _).mono ?_
          rintro e w1 ⟨rfl, hg⟩
          obtain ⟨x0, x1, x2, x3, x4, x5, x6⟩ := ((AccAt.new w (.int .i64 s.k) (.string s.a) (.int .i64 s.n) (.int .i64 s.o) (.string s.u) (.int .i64 s.y) (.int .i64 s.v) 78 _ rfl).gr hg).cells
          have xl := ((AccAt.new w (.int .i64 s.k) (.string s.a) (.int .i64 s.n) (.int .i64 s.o) (.string s.u) (.int .i64 s.y) (.int .i64 s.v) 78 _ rfl).gr hg).lt
          have HG1 : Hid (Gr w w1) := (Gr.refl _).alloc.trans hg
          clear hg
          go_wp2_with fail
          refine (HW.out _).mono ?_
          rintro e w2 ⟨rfl, hw⟩; obtain rfl := hw.symm
          go_wp2
          go_ret
          exact ⟨by rw [HF.out]; rfl, HG1.out⟩
        · rw [decide_eq_false h4] at HB
          have e4 : (s.v == 0) = false := by simpa using h4
          have HF : Hid (OB = false) := HB.out
          clear h1 h3 h4 HB HE
          go_enter Tryz.func57, Tryz.ntmps57
          go_wp2_with fail
          refine (HC.out _).mono ?_
          rintro e w1 ⟨rfl, hg⟩
          obtain ⟨x0, x1, x2, x3, x4, x5, x6⟩ := ((AccAt.new w (.int .i64 s.k) (.string s.a) (.int .i64 s.n) (.int .i64 s.o) (.string s.u) (.int .i64 s.y) (.int .i64 s.v) 78 _ rfl).gr hg).cells
          have xl := ((AccAt.new w (.int .i64 s.k) (.string s.a) (.int .i64 s.n) (.int .i64 s.o) (.string s.u) (.int .i64 s.y) (.int .i64 s.v) 78 _ rfl).gr hg).lt
          have HG1 : Hid (Gr w w1) := (Gr.refl _).alloc.trans hg
          clear hg
          go_wp2
          go_ret
          exact ⟨by rw [HF.out]; rfl, HG1.out⟩
      · rw [decide_eq_false h3] at HB
        have e3 : (s.o == 0) = false := by simpa using h3
        have HF : Hid (OB = false) := HB.out
        clear h1 h3 HB HE
        go_enter Tryz.func57, Tryz.ntmps57
        go_wp2_with fail
        refine (HC.out _).mono ?_
        rintro e w1 ⟨rfl, hg⟩
        obtain ⟨x0, x1, x2, x3, x4, x5, x6⟩ := ((AccAt.new w (.int .i64 s.k) (.string s.a) (.int .i64 s.n) (.int .i64 s.o) (.string s.u) (.int .i64 s.y) (.int .i64 s.v) 78 _ rfl).gr hg).cells
        have xl := ((AccAt.new w (.int .i64 s.k) (.string s.a) (.int .i64 s.n) (.int .i64 s.o) (.string s.u) (.int .i64 s.y) (.int .i64 s.v) 78 _ rfl).gr hg).lt
        have HG1 : Hid (Gr w w1) := (Gr.refl _).alloc.trans hg
        clear hg
        go_wp2
        go_ret
        exact ⟨by rw [HF.out]; rfl, HG1.out⟩
    | false =>
      have e2 : CE = 60 := HE.out
      subst e2
      have HF : Hid (OB = false) := HB.out
      clear h1 HB HE
      go_enter Tryz.func57, Tryz.ntmps57
      go_wp2_with fail
      refine (HC.out _).mono ?_
      rintro e w1 ⟨rfl, hg⟩
      obtain ⟨x0, x1, x2, x3, x4, x5, x6⟩ := ((AccAt.new w (.int .i64 s.k) (.string s.a) (.int .i64 s.n) (.int .i64 s.o) (.string s.u) (.int .i64 s.y) (.int .i64 s.v) 78 _ rfl).gr hg).cells
      have xl := ((AccAt.new w (.int .i64 s.k) (.string s.a) (.int .i64 s.n) (.int .i64 s.o) (.string s.u) (.int .i64 s.y) (.int .i64 s.v) 78 _ rfl).gr hg).lt
      have HG1 : Hid (Gr w w1) := (Gr.refl _).alloc.trans hg
      clear hg
      go_wp2
      go_ret
      exact ⟨by rw [HF.out]; rfl, HG1.out⟩
  · rw [decide_eq_false h1] at ht HB
    have ht2 : (s.u.toList == []) = false := ht
    have HF : Hid (OB = false) := HB.out
    clear ht h1 HB HE
    go_enter Tryz.func57, Tryz.ntmps57
    go_wp2
    go_ret
    exact ⟨by rw [HF.out]; rfl, (by repeat (first | exact Gr.refl _ | refine Gr.alloc ?_ | refine Gr.drew ?_ | refine Gr.trans ?_ (by assumption)))⟩
set_option maxHeartbeats 4000000 in
set_option maxRecDepth 100000 in
theorem asks_any (s : Stp) (w : World) (hs : inS s) : Calls Tryz.prog 58 #[.agg #[.int .i64 s.k, .string s.a, .int .i64 s.n, .int .i64 s.o, .string s.u, .int .i64 s.y, .int .i64 s.v]] w fun e w' => e = .returned (.bool (askB s)) ∧ Gr w w' := by
  have HN : Hid (∀ w', Calls Tryz.prog 55 #[.string s.u] w' fun e w2 => e = .returned (.bool (nameB s.u)) ∧ w2 = w') := fun w' => name_any s.u w' hs.2.1
  have HO : Hid (∀ w', Calls Tryz.prog 56 #[.int .i64 s.o, .int .i64 0, .int .i64 15] w' fun e w2 => e = .returned (.bool (decide (0 ≤ s.o) && decide (s.o ≤ 15))) ∧ w2 = w') := fun w' => within_any s.o 0 15 w'
  have HV : Hid (∀ w', Calls Tryz.prog 56 #[.int .i64 s.v, .int .i64 1, .int .i64 50] w' fun e w2 => e = .returned (.bool (decide (1 ≤ s.v) && decide (s.v ≤ 50))) ∧ w2 = w') := fun w' => within_any s.v 1 50 w'
  have ht := text_eq s.a []
  rw [show (⟨[].toArray⟩ : ByteArray) = ⟨#[]⟩ from rfl] at ht
  have HB : Hid (askB s = (nameB s.u && (decide (s.k = 0) && decide (s.a = ⟨#[]⟩) && decide (s.n = 0)) && decide (s.y = 0) && (decide (0 ≤ s.o) && decide (s.o ≤ 15)) && (decide (1 ≤ s.v) && decide (s.v ≤ 50)))) := rfl
  clear hs
  generalize askB s = OB at *
  generalize (decide (0 ≤ s.o) && decide (s.o ≤ 15)) = OR at *
  generalize (decide (1 ≤ s.v) && decide (s.v ≤ 50)) = VR at *
  generalize nameB s.u = NB at *
  cases NB with
  | true =>
    by_cases hk : s.k = 0
    · rw [decide_eq_true hk] at HB
      have ek : (s.k == 0) = true := by simpa using hk
      clear hk
      by_cases ha : s.a = ⟨#[]⟩
      · rw [decide_eq_true ha] at HB ht
        have ea : (s.a.toList == []) = true := ht
        clear ha ht
        by_cases hn : s.n = 0
        · rw [decide_eq_true hn] at HB
          have en : (s.n == 0) = true := by simpa using hn
          clear hn
          by_cases hy : s.y = 0
          · rw [decide_eq_true hy] at HB
            have ey : (s.y == 0) = true := by simpa using hy
            clear hy
            cases OR with
            | true =>
              have HF : Hid (OB = VR) := HB.out
              clear HB
              go_enter Tryz.func58, Tryz.ntmps58
              go_wp2_with fail
              refine (HN.out _).mono ?_
              rintro e w1 ⟨rfl, hw⟩; obtain rfl := hw.symm
              go_wp2_with fail
              refine (HO.out _).mono ?_
              rintro e w1 ⟨rfl, hw⟩; obtain rfl := hw.symm
              go_wp2_with fail
              refine (HV.out _).mono ?_
              rintro e w1 ⟨rfl, hw⟩; obtain rfl := hw.symm
              go_wp2
              go_ret
              exact ⟨by rw [HF.out]; rfl, (by repeat (first | exact Gr.refl _ | refine Gr.alloc ?_ | refine Gr.drew ?_ | refine Gr.trans ?_ (by assumption)))⟩
            | false =>
              have HF : Hid (OB = false) := HB.out
              clear HB
              go_enter Tryz.func58, Tryz.ntmps58
              go_wp2_with fail
              refine (HN.out _).mono ?_
              rintro e w1 ⟨rfl, hw⟩; obtain rfl := hw.symm
              go_wp2_with fail
              refine (HO.out _).mono ?_
              rintro e w1 ⟨rfl, hw⟩; obtain rfl := hw.symm
              go_wp2
              go_ret
              exact ⟨by rw [HF.out]; rfl, (by repeat (first | exact Gr.refl _ | refine Gr.alloc ?_ | refine Gr.drew ?_ | refine Gr.trans ?_ (by assumption)))⟩
          · rw [decide_eq_false hy] at HB
            have ey : (s.y == 0) = false := by simpa using hy
            have HF : Hid (OB = false) := HB.out.trans (by simp)
            clear hy HB
            go_enter Tryz.func58, Tryz.ntmps58
            go_wp2_with fail
            refine (HN.out _).mono ?_
            rintro e w1 ⟨rfl, hw⟩; obtain rfl := hw.symm
            go_wp2
            go_ret
            exact ⟨by rw [HF.out]; rfl, (by repeat (first | exact Gr.refl _ | refine Gr.alloc ?_ | refine Gr.drew ?_ | refine Gr.trans ?_ (by assumption)))⟩
        · rw [decide_eq_false hn] at HB
          have en : (s.n == 0) = false := by simpa using hn
          have HF : Hid (OB = false) := HB.out.trans (by simp)
          clear hn HB
          go_enter Tryz.func58, Tryz.ntmps58
          go_wp2_with fail
          refine (HN.out _).mono ?_
          rintro e w1 ⟨rfl, hw⟩; obtain rfl := hw.symm
          go_wp2
          go_ret
          exact ⟨by rw [HF.out]; rfl, (by repeat (first | exact Gr.refl _ | refine Gr.alloc ?_ | refine Gr.drew ?_ | refine Gr.trans ?_ (by assumption)))⟩
      · rw [decide_eq_false ha] at HB ht
        have ea : (s.a.toList == []) = false := ht
        have HF : Hid (OB = false) := HB.out.trans (by simp)
        clear ha HB ht
        go_enter Tryz.func58, Tryz.ntmps58
        go_wp2_with fail
        refine (HN.out _).mono ?_
        rintro e w1 ⟨rfl, hw⟩; obtain rfl := hw.symm
        go_wp2
        go_ret
        exact ⟨by rw [HF.out]; rfl, (by repeat (first | exact Gr.refl _ | refine Gr.alloc ?_ | refine Gr.drew ?_ | refine Gr.trans ?_ (by assumption)))⟩
    · rw [decide_eq_false hk] at HB
      have ek : (s.k == 0) = false := by simpa using hk
      have HF : Hid (OB = false) := HB.out.trans (by simp)
      clear hk HB ht
      go_enter Tryz.func58, Tryz.ntmps58
      go_wp2_with fail
      refine (HN.out _).mono ?_
      rintro e w1 ⟨rfl, hw⟩; obtain rfl := hw.symm
      go_wp2
      go_ret
      exact ⟨by rw [HF.out]; rfl, (by repeat (first | exact Gr.refl _ | refine Gr.alloc ?_ | refine Gr.drew ?_ | refine Gr.trans ?_ (by assumption)))⟩
  | false =>
    have HF : Hid (OB = false) := HB.out
    clear HB
    go_enter Tryz.func58, Tryz.ntmps58
    go_wp2_with fail
    refine (HN.out _).mono ?_
    rintro e w1 ⟨rfl, hw⟩; obtain rfl := hw.symm
    go_wp2
    go_ret
    exact ⟨by rw [HF.out]; rfl, (by repeat (first | exact Gr.refl _ | refine Gr.alloc ?_ | refine Gr.drew ?_ | refine Gr.trans ?_ (by assumption)))⟩
end Go.Proofs.YtfobfpigbfepoaaGreatDoor
namespace Go.Proofs.YtfobfpigbfepoaaGreatDoor
open Go.RowKit
open Df (Stp)
def eqS (x y : Stp) : Bool := decide (x.k = y.k) && decide (x.a = y.a) && decide (x.n = y.n) && decide (x.o = y.o) && decide (x.u = y.u) && decide (x.y = y.y) && decide (x.v = y.v)
theorem eqS_iff (x y : Stp) : eqS x y = true ↔ x = y := by
  unfold eqS
  simp only [Bool.and_eq_true, decide_eq_true_eq]
  constructor
  · rintro ⟨⟨⟨⟨⟨⟨h1, h2⟩, h3⟩, h4⟩, h5⟩, h6⟩, h7⟩
    cases x; cases y; simp_all
  · rintro rfl; simp
theorem toL_eq (a b : ByteArray) : (a.toList = b.toList) ↔ a = b := by
  rw [ByteArray.toList_eq, ByteArray.toList_eq]
  exact ⟨Lex.list_bytes, fun h => by rw [h]⟩
theorem neq_stp (x y : Stp) (W : World) : (binOp .neq 78 (.agg #[.int .i64 x.k, .string x.a, .int .i64 x.n, .int .i64 x.o, .string x.u, .int .i64 x.y, .int .i64 x.v]) (.agg #[.int .i64 y.k, .string y.a, .int .i64 y.n, .int .i64 y.o, .string y.u, .int .i64 y.y, .int .i64 y.v])).run Tryz.prog W = .ok (.bool (!eqS x y)) W := by
  go_simp
  unfold eqS
  simp only [toL_eq]
  by_cases h1 : x.k = y.k <;> by_cases h2 : x.a = y.a <;> by_cases h3 : x.n = y.n <;> by_cases h4 : x.o = y.o <;> by_cases h5 : x.u = y.u <;> by_cases h6 : x.y = y.y <;> by_cases h7 : x.v = y.v <;> simp [h1, h2, h3, h4, h5, h6, h7]
def eqL (L M : List Stp) : Bool := decide (L.length = M.length) && (List.range L.length).all (fun j => eqS (L.getD j ⟨0, ⟨#[]⟩, 0, 0, ⟨#[]⟩, 0, 0⟩) (M.getD j ⟨0, ⟨#[]⟩, 0, 0, ⟨#[]⟩, 0, 0⟩))
theorem eqL_iff (L M : List Stp) : eqL L M = true ↔ L = M := by
  unfold eqL
  simp only [Bool.and_eq_true, decide_eq_true_eq, List.all_eq_true, List.mem_range, eqS_iff]
  constructor
  · rintro ⟨h1, h2⟩
    refine List.ext_getElem h1 (fun j hj hj' => ?_)
    have := h2 j hj
    rwa [List.getD_eq_getElem?_getD, List.getD_eq_getElem?_getD, List.getElem?_eq_getElem hj, List.getElem?_eq_getElem hj'] at this
  · rintro rfl; simp
theorem eqL_no {L M : List Stp} (j : Nat) (h1 : j < L.length) (h2 : j < M.length) (h : eqS L[j] M[j] = false) : eqL L M = false := by
  cases he : eqL L M with
  | false => rfl
  | true =>
    have := (eqL_iff L M).1 he
    subst this
    rw [(eqS_iff _ _).2 rfl] at h; cases h
theorem eqL_len {L M : List Stp} (h : L.length ≠ M.length) : eqL L M = false := by unfold eqL; rw [decide_eq_false h]; rfl
theorem eqL_yes {L M : List Stp} (h0 : L.length = M.length) (h : ∀ j (h1 : j < L.length) (h2 : j < M.length), eqS L[j] M[j] = true) : eqL L M = true :=
  (eqL_iff L M).2 (List.ext_getElem h0 (fun j h1 h2 => (eqS_iff _ _).1 (h j h1 h2)))
end Go.Proofs.YtfobfpigbfepoaaGreatDoor
