/- The document's sums and products. -/
import Derived.Test.YtmidlcipbpchgabDoorCashP
namespace Go.Proofs.YtmidlcipbpchgabDoor
open Go.RowKit

theorem refFits_any (a : Int) (w : World) :
    Calls Tryd.prog 25 #[.int .i64 a] w fun e w' => e = .returned (.bool (decide (0 ≤ a) && decide (a ≤ 1000000000000000))) ∧ w' = w := by
  by_cases h0 : 0 ≤ a
  · by_cases h1 : a ≤ 1000000000000000
    · have HF : Hid ((decide (0 ≤ a) && decide (a ≤ 1000000000000000)) = true) := by show _ = _; simp [h0, h1]
      rw [HF.out]
      go_enter Tryd.func25, Tryd.ntmps25
      go_wp2
      go_ret
      exact ⟨rfl, rfl⟩
    · have HF : Hid ((decide (0 ≤ a) && decide (a ≤ 1000000000000000)) = false) := by show _ = _; simp [h1]
      rw [HF.out]
      go_enter Tryd.func25, Tryd.ntmps25
      go_wp2
      go_ret
      exact ⟨rfl, rfl⟩
  · have HF : Hid ((decide (0 ≤ a) && decide (a ≤ 1000000000000000)) = false) := by show _ = _; simp [h0]
    rw [HF.out]
    go_enter Tryd.func25, Tryd.ntmps25
    go_wp2
    go_ret
    exact ⟨rfl, rfl⟩

theorem w64_id (n : Int) (h0 : -9223372036854775808 ≤ n) (h1 : n ≤ 9223372036854775807) : wrap64 n = n := by unfold wrap64; omega
theorem part_eq (a : Int) : (wrap64 (a.tmod 4294967296 + 4294967296)).tmod 4294967296 = a % 4294967296 := by
  have hb : -4294967296 < a.tmod 4294967296 ∧ a.tmod 4294967296 < 4294967296 := by
    by_cases h : 0 ≤ a
    · rw [Int.tmod_eq_emod_of_nonneg h]; omega
    · have : a.tmod 4294967296 = -((-a) % 4294967296) := by rw [← Int.tmod_eq_emod_of_nonneg (by omega : 0 ≤ -a), Int.neg_tmod, Int.neg_neg]
      rw [this]; omega
  rw [w64_id _ (by omega) (by omega)]
  by_cases h : 0 ≤ a
  · rw [Int.tmod_eq_emod_of_nonneg h, Int.tmod_eq_emod_of_nonneg (by omega)]; omega
  · have : a.tmod 4294967296 = -((-a) % 4294967296) := by rw [← Int.tmod_eq_emod_of_nonneg (by omega : 0 ≤ -a), Int.neg_tmod, Int.neg_neg]
    rw [this, Int.tmod_eq_emod_of_nonneg (by omega)]; omega
theorem half_high (s a : Int) (h0 : -9223372036854775808 ≤ a) (h1 : a ≤ 9223372036854775807) (hs0 : -92233720368547758080000 ≤ s) (hs1 : s ≤ 92233720368547758080000) :
    wrap64 (wrap64 (s / 4294967296 + wrap64 ((wrap64 (a - (wrap64 (a.tmod 4294967296 + 4294967296)).tmod 4294967296)).tdiv 4294967296)) + wrap64 ((wrap64 (s % 4294967296 + (wrap64 (a.tmod 4294967296 + 4294967296)).tmod 4294967296)).tdiv 4294967296)) = (s + a) / 4294967296 := by
  rw [part_eq, w64_id (a - a % 4294967296) (by omega) (by omega)]
  have e2 : (a - a % 4294967296).tdiv 4294967296 = a / 4294967296 := by
    have : a - a % 4294967296 = a / 4294967296 * 4294967296 := by omega
    rw [this, Int.mul_tdiv_cancel _ (by omega)]
  rw [e2, w64_id (a / 4294967296) (by omega) (by omega), w64_id (s % 4294967296 + a % 4294967296) (by omega) (by omega), Int.tdiv_eq_ediv_of_nonneg (by omega)]
  rw [w64_id ((s % 4294967296 + a % 4294967296) / 4294967296) (by omega) (by omega), w64_id (s / 4294967296 + a / 4294967296) (by omega) (by omega), w64_id _ (by omega) (by omega)]
  omega
theorem half_low (s a : Int) : (wrap64 (s % 4294967296 + (wrap64 (a.tmod 4294967296 + 4294967296)).tmod 4294967296)).tmod 4294967296 = (s + a) % 4294967296 := by
  rw [part_eq, w64_id (s % 4294967296 + a % 4294967296) (by omega) (by omega), Int.tmod_eq_emod_of_nonneg (by omega)]
  omega

set_option maxHeartbeats 1000000 in
set_option maxRecDepth 100000 in
theorem refSum_any (l : List Int) (ad : Option Addr) (cap : Nat) (w : World) (hL : IntsAt w ad l) (hn : l.length ≤ 10000) (hr : ∀ a ∈ l, -9223372036854775808 ≤ a ∧ a ≤ 9223372036854775807) :
    Calls Tryd.prog 21 #[.slice ad l.length cap] w fun e w' => e = .returned (.tuple #[.int .i64 (Csh.valE (Csh.sumE l)), .int .i64 (Csh.errE (Csh.sumE l))]) ∧ w' = w := by
  have HL : Hid (IntsAt w ad l) := hL
  have HR : Hid (∀ a ∈ l, -9223372036854775808 ≤ a ∧ a ≤ 9223372036854775807) := hr
  clear hL hr
  go_enter Tryd.func21, Tryd.ntmps21
  go_wp2
  go_loop [4, 5, 6] (fun h o i => ∃ k : Nat, k ≤ l.length ∧ i = .int .i64 k ∧ h = .int .i64 (Csh.sumE (l.take k) / 4294967296) ∧ o = .int .i64 (Csh.sumE (l.take k) % 4294967296)) (fun _ _ i => l.length - (intOf i).toNat)
  case atStart => exact ⟨0, by omega, rfl, rfl, rfl⟩
  case round =>
    obtain ⟨k, hk, rfl, rfl, rfl⟩ := hrel
    by_cases hlt : k < l.length
    · obtain ⟨b, off, rfl, hbl, hc⟩ := HL.out k hlt
      have hz := HR.out l[k] (List.getElem_mem hlt)
      have HM : Hid (Csh.sumE (l.take (k + 1)) = Csh.sumE (l.take k) + l[k]) := Csh.sum_more l k hlt
      have hb := Csh.sum_bound (l.take k) (fun a ha => HR.out a (List.mem_of_mem_take ha))
      rw [List.length_take] at hb
      generalize l[k] = a at *
      generalize Csh.sumE (l.take k) = s at *
      have HH : Hid (_ = _) := half_high s a hz.1 hz.2 (by omega) (by omega)
      have HO : Hid (_ = _) := half_low s a
      clear hb
      go_wp2
      go_round
      case rel => exact ⟨k + 1, by omega, by go_num, by rw [HM.out, HH.out], by rw [HM.out, HO.out]⟩
      case measure => simp [intOf]; omega
    · have hkl : l.take k = l := List.take_of_length_le (by omega)
      have hb := Csh.sum_bound l HR.out
      rw [hkl]
      clear hkl
      obtain ⟨s, es⟩ : ∃ s, Csh.sumE l = s := ⟨_, rfl⟩
      have ES : Hid (Csh.sumE l = s) := es
      rw [es] at hb ⊢
      clear es
      by_cases hok : Csh.okB s = true
      · have e3 : Csh.valE s = s := by unfold Csh.valE; rw [if_pos hok]
        have e4 : Csh.errE s = 0 := by unfold Csh.errE; rw [if_pos hok]
        simp only [Csh.okB, Bool.and_eq_true, decide_eq_true_eq] at hok
        have h1 : ¬ (s / 4294967296 < -2147483648) := by omega
        have h2 : ¬ (2147483647 < s / 4294967296) := by omega
        have HV : Hid (s / 4294967296 * 4294967296 + s % 4294967296 = s) := by
          show _ = _
          omega
        have E3 : Hid (Csh.valE s = s) := e3
        have E4 : Hid (Csh.errE s = 0) := e4
        clear e3 e4 hb
        go_wp2
        go_ret2
        exact ⟨by rw [ES.out, E3.out, E4.out, ← HV.out]; simp; omega, rfl⟩
      · have e3 : Csh.valE s = 0 := by unfold Csh.valE; rw [if_neg hok]
        have e4 : Csh.errE s = 40 := by unfold Csh.errE; rw [if_neg hok]
        simp only [Csh.okB, Bool.and_eq_true, decide_eq_true_eq] at hok
        have E3 : Hid (Csh.valE s = 0) := e3
        have E4 : Hid (Csh.errE s = 40) := e4
        clear e3 e4 hb
        by_cases h1 : s / 4294967296 < -2147483648
        · go_wp2
          go_ret2
          exact ⟨by rw [ES.out, E3.out, E4.out]; rfl, rfl⟩
        · have h2 : 2147483647 < s / 4294967296 := by omega
          go_wp2
          go_ret2
          exact ⟨by rw [ES.out, E3.out, E4.out]; rfl, rfl⟩

theorem ref_times_eq (a n : Int) (ha : -9223372036854775808 ≤ a) (ha1 : a ≤ 9223372036854775807) (hn : -9223372036854775808 ≤ n) (hn1 : n ≤ 9223372036854775807) (hz : n ≠ 0) :
    ((a == -1 && n == -9223372036854775808) || (n == -1 && a == -9223372036854775808) || (wrap64 ((wrap64 (a * n)).tdiv n) != a)) = !Csh.okB (a * n) := by
  cases hok : Csh.okB (a * n) with
  | true =>
    obtain ⟨h1, h2, h3, h4⟩ := Csh.times_forth a n hz hok ha ha1
    rw [wrap_sgn, wrap_sgn, h3, h4]
    have e1 : (a == -1 && n == -9223372036854775808) = false := by
      rw [Bool.and_eq_false_iff, beq_eq_false_iff_ne, beq_eq_false_iff_ne]
      omega
    have e2 : (n == -1 && a == -9223372036854775808) = false := by
      rw [Bool.and_eq_false_iff, beq_eq_false_iff_ne, beq_eq_false_iff_ne]
      omega
    rw [e1, e2]; simp
  | false =>
    by_cases h1 : a = -1 ∧ n = -9223372036854775808
    · rw [h1.1, h1.2]; rfl
    by_cases h2 : n = -1 ∧ a = -9223372036854775808
    · rw [h2.1, h2.2]; rfl
    by_cases h3 : wrap64 ((wrap64 (a * n)).tdiv n) = a
    · rw [wrap_sgn, wrap_sgn] at h3
      have := Csh.times_back a n ha ha1 hn hn1 hz h1 h2 h3
      rw [hok] at this; cases this
    · have e : (wrap64 ((wrap64 (a * n)).tdiv n) != a) = true := by simpa using h3
      rw [e]; simp

set_option maxHeartbeats 4000000 in
set_option maxRecDepth 100000 in
theorem refTimes_any (a n : Int) (w : World) (ha : -9223372036854775808 ≤ a) (ha1 : a ≤ 9223372036854775807) (hn : -9223372036854775808 ≤ n) (hn1 : n ≤ 9223372036854775807) :
    Calls Tryd.prog 23 #[.int .i64 a, .int .i64 n] w fun e w' => e = .returned (.tuple #[.int .i64 (Csh.valE (a * n)), .int .i64 (Csh.errE (a * n))]) ∧ w' = w := by
  have E0 : Hid (Csh.valE 0 = 0 ∧ Csh.errE 0 = 0) := ⟨rfl, rfl⟩
  by_cases za : a = 0
  · have EP : Hid (a * n = 0) := by show _ = _; rw [za, Int.zero_mul]
    have h1 : (a == 0) = true := by simpa using za
    clear za
    go_enter Tryd.func23, Tryd.ntmps23
    go_wp2
    go_ret2
    exact ⟨by rw [EP.out, E0.out.1, E0.out.2]; rfl, rfl⟩
  by_cases zn : n = 0
  · have EP : Hid (a * n = 0) := by show _ = _; rw [zn, Int.mul_zero]
    have h1 : (a == 0) = false := by simpa using za
    have h2 : (n == 0) = true := by simpa using zn
    clear zn
    go_enter Tryd.func23, Tryd.ntmps23
    go_wp2
    go_ret2
    exact ⟨by rw [EP.out, E0.out.1, E0.out.2]; rfl, rfl⟩
  have za' : (a == 0) = false := by simpa using za
  have zn' : (n == 0) = false := by simpa using zn
  have hT := ref_times_eq a n ha ha1 hn hn1 zn
  have EW : Hid (Csh.okB (a * n) = true → wrap64 (a * n) = a * n) := by
    intro h
    rw [wrap_sgn]
    exact (Csh.times_forth a n zn h ha ha1).2.2.1
  cases h1 : (a == -1) <;> cases h2 : (n == -9223372036854775808) <;> cases h3 : (n == -1) <;> cases h4 : (a == -9223372036854775808) <;> cases h5 : (wrap64 ((wrap64 (a * n)).tdiv n) != a)
  all_goals
    rw [h1, h2, h3, h4, h5] at hT
    have HT : Hid (_ = _) := hT
    clear hT E0
    first
    | (exfalso; clear HT EW h5 za zn za' zn'; simp at h1 h2 h3 h4; omega)
    | (go_enter Tryd.func23, Tryd.ntmps23
       go_wp2
       go_ret2
       first
       | (have hk : Csh.okB (a * n) = true := by simpa using HT.out
          have hv : Csh.valE (a * n) = wrap64 (a * n) := by rw [EW.out hk]; unfold Csh.valE; rw [if_pos hk]
          have hw : Csh.errE (a * n) = 0 := by unfold Csh.errE; rw [if_pos hk]
          exact ⟨by rw [hv, hw]; rfl, rfl⟩)
       | (have hk : Csh.okB (a * n) = false := by simpa using HT.out
          have hv : Csh.valE (a * n) = 0 := by unfold Csh.valE; rw [hk]; rfl
          have hw : Csh.errE (a * n) = 40 := by unfold Csh.errE; rw [hk]; rfl
          exact ⟨by rw [hv, hw]; rfl, rfl⟩))
end Go.Proofs.YtmidlcipbpchgabDoor
