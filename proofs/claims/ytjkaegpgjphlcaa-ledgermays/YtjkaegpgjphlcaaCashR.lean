/- The document's sums and products. -/
import Derived.Test.YtjkaegpgjphlcaaCashP
namespace Go.Proofs.Ytjkaegpgjphlcaa
open Go.RowKit

theorem refFits_any (a : Int) (w : World) :
    Calls Try.prog 54 #[.int .i64 a] w fun e w' => e = .returned (.bool (decide (0 ≤ a) && decide (a ≤ 1000000000000000))) ∧ w' = w := by
  by_cases h0 : 0 ≤ a
  · by_cases h1 : a ≤ 1000000000000000
    · have HF : Hid ((decide (0 ≤ a) && decide (a ≤ 1000000000000000)) = true) := by show _ = _; simp [h0, h1]
      rw [HF.out]
      go_enter Try.func54, Try.ntmps54
      go_wp2
      go_ret
      exact ⟨rfl, rfl⟩
    · have HF : Hid ((decide (0 ≤ a) && decide (a ≤ 1000000000000000)) = false) := by show _ = _; simp [h1]
      rw [HF.out]
      go_enter Try.func54, Try.ntmps54
      go_wp2
      go_ret
      exact ⟨rfl, rfl⟩
  · have HF : Hid ((decide (0 ≤ a) && decide (a ≤ 1000000000000000)) = false) := by show _ = _; simp [h0]
    rw [HF.out]
    go_enter Try.func54, Try.ntmps54
    go_wp2
    go_ret
    exact ⟨rfl, rfl⟩

theorem w64_id (n : Int) (h0 : -9223372036854775808 ≤ n) (h1 : n ≤ 9223372036854775807) : wrap64 n = n := by unfold wrap64; omega
theorem part_eq (a : Int) : (wrap64 (a.tmod 4294967296 + 4294967296)).tmod 4294967296 = a % 4294967296 := by
  have hb : -4294967296 < a.tmod 4294967296 ∧ a.tmod 4294967296 < 4294967296 := by
    by_cases h : 0 ≤ a
    · rw [Int.tmod_eq_emod_of_nonneg h]; omega
    · have : a.tmod 4294967296 = -((-a) % 4294967296) := by rw [← Int.tmod_eq_emod_of_nonneg (by omega : 0 ≤ -a), Int.neg_tmod, Int.neg_neg]
      rw [this]; omega
  rw [w64_id _ (by omega) (by omega)]
  by_cases h : 0 ≤ a
  · rw [Int.tmod_eq_emod_of_nonneg h, Int.tmod_eq_emod_of_nonneg (by omega)]; omega
  · have : a.tmod 4294967296 = -((-a) % 4294967296) := by rw [← Int.tmod_eq_emod_of_nonneg (by omega : 0 ≤ -a), Int.neg_tmod, Int.neg_neg]
    rw [this, Int.tmod_eq_emod_of_nonneg (by omega)]; omega
theorem half_high (s a : Int) (h0 : -9223372036854775808 ≤ a) (h1 : a ≤ 9223372036854775807) (hs0 : -92233720368547758080000 ≤ s) (hs1 : s ≤ 92233720368547758080000) :
    wrap64 (wrap64 (s / 4294967296 + wrap64 ((wrap64 (a - (wrap64 (a.tmod 4294967296 + 4294967296)).tmod 4294967296)).tdiv 4294967296)) + wrap64 ((wrap64 (s % 4294967296 + (wrap64 (a.tmod 4294967296 + 4294967296)).tmod 4294967296)).tdiv 4294967296)) = (s + a) / 4294967296 := by
  rw [part_eq, w64_id (a - a % 4294967296) (by omega) (by omega)]
  have e2 : (a - a % 4294967296).tdiv 4294967296 = a / 4294967296 := by
    have : a - a % 4294967296 = a / 4294967296 * 4294967296 := by omega
    rw [this, Int.mul_tdiv_cancel _ (by omega)]
  rw [e2, w64_id (a / 4294967296) (by omega) (by omega), w64_id (s % 4294967296 + a % 4294967296) (by omega) (by omega), Int.tdiv_eq_ediv_of_nonneg (by omega)]
  rw [w64_id ((s % 4294967296 + a % 4294967296) / 4294967296) (by omega) (by omega), w64_id (s / 4294967296 + a / 4294967296) (by omega) (by omega), w64_id _ (by omega) (by omega)]
  omega
theorem half_low (s a : Int) : (wrap64 (s % 4294967296 + (wrap64 (a.tmod 4294967296 + 4294967296)).tmod 4294967296)).tmod 4294967296 = (s + a) % 4294967296 := by
  rw [part_eq, w64_id (s % 4294967296 + a % 4294967296) (by omega) (by omega), Int.tmod_eq_emod_of_nonneg (by omega)]
  omega

set_option maxHeartbeats 1000000 in
set_option maxRecDepth 100000 in
theorem refSum_any (l : List Int) (ad : Option Addr) (cap : Nat) (w : World) (hL : IntsAt w ad l) (hn : l.length ≤ 10000) (hr : ∀ a ∈ l, -9223372036854775808 ≤ a ∧ a ≤ 9223372036854775807) :
    Calls Try.prog 38 #[.slice ad l.length cap] w fun e w' => e = .returned (.tuple #[.int .i64 (Csh.valE (Csh.sumE l)), .int .i64 (Csh.errE (Csh.sumE l))]) ∧ w' = w := by
  have HL : Hid (IntsAt w ad l) := hL
  have HR : Hid (∀ a ∈ l, -9223372036854775808 ≤ a ∧ a ≤ 9223372036854775807) := hr
  clear hL hr
  go_enter Try.func38, Try.ntmps38
  go_wp2
  go_loop [4, 5, 6] (fun h o i => ∃ k : Nat, k ≤ l.length ∧ i = .int .i64 k ∧ h = .int .i64 (Csh.sumE (l.take k) / 4294967296) ∧ o = .int .i64 (Csh.sumE (l.take k) % 4294967296)) (fun _ _ i => l.length - (intOf i).toNat)
  case atStart => exact ⟨0, by omega, rfl, rfl, rfl⟩
  case round =>
    obtain ⟨k, hk, rfl, rfl, rfl⟩ := hrel
    by_cases hlt : k < l.length
    · obtain ⟨b, off, rfl, hbl, hc⟩ := HL.out k hlt
      have hz := HR.out l[k] (List.getElem_mem hlt)
      have HM : Hid (Csh.sumE (l.take (k + 1)) = Csh.sumE (l.take k) + l[k]) := Csh.sum_more l k hlt
      have hb := Csh.sum_bound (l.take k) (fun a ha => HR.out a (List.mem_of_mem_take ha))
      rw [List.length_take] at hb
      generalize l[k] = a at *
      generalize Csh.sumE (l.take k) = s at *
      have HH : Hid (_ = _) := half_high s a hz.1 hz.2 (by omega) (by omega)
      have HO : Hid (_ = _) := half_low s a
      clear hb
      go_wp2
      go_round
      case rel => exact ⟨k + 1, by omega, by go_num, by rw [HM.out, HH.out], by rw [HM.out, HO.out]⟩
      case measure => simp [intOf]; omega
    · have hkl : l.take k = l := List.take_of_length_le (by omega)
      have hb := Csh.sum_bound l HR.out
      rw [hkl]
      clear hkl
      obtain ⟨s, es⟩ : ∃ s, Csh.sumE l = s := ⟨_, rfl⟩
      have ES : Hid (Csh.sumE l = s) := es
      rw [es] at hb ⊢
      clear es
      by_cases hok : Csh.okB s = true
      · have e3 : Csh.valE s = s := by unfold Csh.valE; rw [if_pos hok]
        have e4 : Csh.errE s = 0 := by unfold Csh.errE; rw [if_pos hok]
        simp only [Csh.okB, Bool.and_eq_true, decide_eq_true_eq] at hok
        have h1 : ¬ (s / 4294967296 < -2147483648) := by omega
        have h2 : ¬ (2147483647 < s / 4294967296) := by omega
        have HV : Hid (s / 4294967296 * 4294967296 + s % 4294967296 = s) := by
          show _ = _
          omega
        have E3 : Hid (Csh.valE s = s) := e3
        have E4 : Hid (Csh.errE s = 0) := e4
        clear e3 e4 hb
        go_wp2
        go_ret2
        exact ⟨by rw [ES.out, E3.out, E4.out, ← HV.out]; simp; omega, rfl⟩
      · have e3 : Csh.valE s = 0 := by unfold Csh.valE; rw [if_neg hok]
        have e4 : Csh.errE s = 40 := by unfold Csh.errE; rw [if_neg hok]
        simp only [Csh.okB, Bool.and_eq_true, decide_eq_true_eq] at hok
        have E3 : Hid (Csh.valE s = 0) := e3
        have E4 : Hid (Csh.errE s = 40) := e4
        clear e3 e4 hb
        by_cases h1 : s / 4294967296 < -2147483648
        · go_wp2
          go_ret2
          exact ⟨by rw [ES.out, E3.out, E4.out]; rfl, rfl⟩
        · have h2 : 2147483647 < s / 4294967296 := by omega
          go_wp2
          go_ret2
          exact ⟨by rw [ES.out, E3.out, E4.out]; rfl, rfl⟩

end Go.Proofs.Ytjkaegpgjphlcaa
