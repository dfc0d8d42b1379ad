
/- wheel: Tick, nextTurn. -/
import Derived.Test.YtmgiiofjlgchfaaDoorWhJ
namespace Go.Proofs.YtmgiiofjlgchfaaDoor
open Go.RowKit Go.Maps Go.Sort
open Wh (Tm Sl ks hasK atK del ins put dig whl Inv tlt Up low slotK fL fT fS trn)

set_option maxHeartbeats 2000000 in
set_option maxRecDepth 100000 in
theorem tick_end {b m t : Nat} {L : List Tm} {S : Sl} {V : Vl} {w : World} (h : WAt w b m t L S V) (ht : t = 1000000000) :
    Calls Tryd.prog 17 #[ptr b] w fun e w' => e = .returned (.slice none 0 0) ∧ w' = w := by
  have hN := isNone_any h
  have hnw := h.now
  subst ht
  clear h
  go_enter Tryd.func17, Tryd.ntmps17
  go_wp2_with (go_at_call 26; refine hN.mono ?_; rintro e w' ⟨rfl, hw⟩; obtain rfl := hw.symm; clear hw)
  go_ret
  exact ⟨rfl, rfl⟩
set_option maxHeartbeats 2000000 in
set_option maxRecDepth 100000 in
theorem tick_any {b m t : Nat} {L : List Tm} {S : Sl} {V : Vl} {w : World} (h : WAt w b m t L S V) (hi : Inv t L S) (ht : t < 1000000000) (hT : Tb w) (ho : ¬ own b m V 1) :
    Calls Tryd.prog 17 #[ptr b] w fun e w' => ComR w w' b m (t + 1) L V e := by
  have hN := isNone_any h
  have hnw := h.now
  have hf := h.fz 0 (by omega)
  have hne : ((t : Int) == 1000000000) = false := by simp; omega
  have ht2 : Tn w (w.setCell ⟨b, 0, none⟩ (.int .i64 ((t + 1 : Nat) : Int))) b m V V := Tn.set _ _ (Or.inl rfl)
  have hC := come_any (h.setNow (t + 1)) hi (Nat.lt_succ_self t) (by omega) (Wh.tick_ok hi) (hT.tn ht2 ho).1
  have HC : Hid (Calls Tryd.prog 31 #[ptr b] (w.setCell ⟨b, 0, none⟩ (.int .i64 ((t : Int) + 1))) fun e w' => ComR w w' b m (t + 1) L V e) := by
    show Calls _ _ _ _ _
    rw [show ((t + 1 : Nat) : Int) = (t : Int) + 1 by omega] at hC ht2
    refine hC.mono ?_
    rintro e w' ⟨v, S', V', q1, q2, q3, q4, q5, q6⟩
    exact ⟨v, S', V', q1, by simpa using q2, q3, q4, ht2.trans q5, q6⟩
  clear h hi hC ht2
  go_enter Tryd.func17, Tryd.ntmps17
  go_wp2_with (first
    | (go_at_call 26; refine hN.mono ?_; rintro e w' ⟨rfl, hw⟩; obtain rfl := hw.symm; clear hw)
    | (go_at_call 31; refine HC.out.mono ?_; rintro e w1 ⟨v, S', V', rfl, q2, q3, q4, q5, q6⟩; have HF : Hid (ComR w w1 b m (t + 1) L V (.returned v)) := ⟨v, S', V', rfl, q2, q3, q4, q5, q6⟩; clear q2 q3 q4 q5 q6))
  go_ret
  exact HF.out
def NxR (t : Nat) (L : List Tm) (w w' : World) (e : Ending) : Prop := w' = w ∧ ∃ n : Nat, e = .returned (.int .i64 (n : Int)) ∧ t < n ∧ n ≤ 4611686018427387904 ∧ ∀ x ∈ L, n ≤ trn t x.2
theorem rem_nat (r : Nat) : (r : Int).tmod 32 = ((r % 32 : Nat) : Int) := by
  rw [Int.tmod_eq_emod_of_nonneg (Int.natCast_nonneg _)]; omega
theorem pow_small {g : Nat} (h : g < 6) : 32 ^ g ≤ 33554432 := by
  have : 32 ^ g ≤ 32 ^ 5 := Nat.pow_le_pow_right (by decide) (by omega)
  simpa using this
set_option maxHeartbeats 4000000 in
set_option maxRecDepth 100000 in
theorem next_any {b m t : Nat} {L : List Tm} {S : Sl} {V : Vl} {w : World} (h : WAt w b m t L S V) (hi : Inv t L S) :
    Calls Tryd.prog 32 #[ptr b] w fun e w' => NxR t L w w' e := by
  have hnw := h.now
  have ht := hi.tlim
  have HL : Hid (∀ x ∈ L, t < x.2 ∧ x.2 < 2 ^ 30 ∧ x.2 ≤ 1000000000) := fun x hx => ⟨(hi.ok.ahead x hx).1, hi.lim hx, (hi.ok.ahead x hx).2⟩
  have HS : Hid (∀ g d, g < 6 → d < 32 → ∃ ad c, w.cell? ⟨b, 2 + g * 32 + d, none⟩ = some (.slice ad (S g d).length c)) := fun g d hg hd => by
    obtain ⟨ad, c, e⟩ := own_slice (h.row g d hg hd)
    exact ⟨ad, c, by rw [h.sl g d hg hd, e]⟩
  have HM : Hid (∀ g d, (S g d).length = 0 → ∀ x ∈ L, ¬ (whl t x.2 = g ∧ dig x.2 g = d)) := fun g d h0 x hx hc => by
    have : x.1 ∈ S g d := hi.mem.2 ⟨x.2, hx, hc⟩
    rw [List.length_eq_zero_iff.1 h0] at this
    cases this
  have ht9 := hi.ok.time
  clear h hi
  go_enter Tryd.func32, Tryd.ntmps32
  go_wp2
  go_loop [3, 4, 5, 6] (fun _ _ _ i => ∃ g : Nat, g ≤ 6 ∧ i = .int .i64 (g : Int) ∧ ∀ x ∈ L, g ≤ whl t x.2) (fun _ _ _ i => (6 - intOf i).toNat)
  case atStart => exact ⟨0, by omega, rfl, fun x _ => Nat.zero_le _⟩
  case round =>
    obtain ⟨g, hg, rfl, hgl⟩ := hrel
    have HGl : Hid (∀ x ∈ L, g ≤ whl t x.2) := hgl
    clear hgl
    by_cases hlt : g < 6
    · have hsh := shr_any t g
      obtain ⟨q, HQ⟩ : ∃ q, Hid (q = t / 32 ^ g) := ⟨_, rfl⟩
      rw [← HQ.out] at hsh
      have hq : q ≤ t := by rw [HQ.out]; exact Nat.div_le_self _ _
      go_wp2
      go_loop [5] (fun v => ∃ r : Nat, v = .int .i64 (r : Int) ∧ q < r ∧ r ≤ q / 32 * 32 + 32 ∧ ∀ x ∈ L, whl t x.2 = g → r ≤ x.2 / 32 ^ g) (fun v => (2 ^ 31 - intOf v).toNat)
      case atStart =>
        refine ⟨q + 1, rfl, by omega, by omega, fun x hx e => ?_⟩
        obtain ⟨h1, h2, _⟩ := HL.out x hx
        have h4 := (Wh.whl_in (show x.2 ≠ t by omega) h2 ht).1
        rw [e] at h4
        have := Wh.in_lt h4 h1
        rw [← HQ.out] at this
        exact this
      case round =>
        obtain ⟨r, rfl, hqr, hrc, hge⟩ := hrel
        have HGe : Hid (∀ x ∈ L, whl t x.2 = g → r ≤ x.2 / 32 ^ g) := hge
        have hrm := rem_nat r
        obtain ⟨d, HD⟩ : ∃ d, Hid (d = r % 32) := ⟨_, rfl⟩
        have hrm2 : (r : Int) % 32 = ((r % 32 : Nat) : Int) := by omega
        rw [← HD.out] at hrm hrm2
        have hd32 : d < 32 := by rw [HD.out]; omega
        clear hge
        by_cases hr0 : d = 0
        · have HEx : Hid (∀ x ∈ L, g + 1 ≤ whl t x.2) := fun x hx => by
            obtain ⟨h1, h2, _⟩ := HL.out x hx
            have := Wh.turn_end h1 h2 (r := r) (g := g) (by rw [← HD.out]; exact hr0) (by rw [← HQ.out]; exact hqr) (HGe.out x hx)
            have := HGl.out x hx
            omega
          subst hr0
          go_wp2
          go_round
          case rel => exact ⟨g + 1, by omega, rfl, HEx.out⟩
          case measure => simp [intOf]; omega
        · have hdb : ((d : Int) != 0) = true := by simp; omega
          have HR32 : Hid (r / 32 = t / 32 ^ (g + 1)) := by
            show r / 32 = _
            rw [Wh.div_up, ← HQ.out]
            have := HD.out
            omega
          obtain ⟨ad, c, hcell⟩ := HS.out g d hlt hd32
          obtain ⟨n, HNl⟩ : ∃ n, Hid (n = (S g d).length) := ⟨_, rfl⟩
          rw [← HNl.out] at hcell
          by_cases hn0 : n = 0
          · have HNx : Hid (∀ x ∈ L, whl t x.2 = g → r + 1 ≤ x.2 / 32 ^ g) := fun x hx => by
              obtain ⟨h1, h2, _⟩ := HL.out x hx
              exact Wh.turn_step h1 h2 HR32.out (HGe.out x hx) (by rw [← HD.out]; exact HM.out g d (by rw [← HNl.out]; exact hn0) x hx)
            have HRc : Hid (r + 1 ≤ q / 32 * 32 + 32) := by have := HD.out; show r + 1 ≤ _; omega
            subst hn0
            clear hr0
            go_wp2
            go_round
            case rel => exact ⟨r + 1, by simp, by omega, HRc.out, HNx.out⟩
            case measure => simp [intOf]; omega
          · have hn0' : (0 : Int) < (n : Int) := by omega
            have hp := pow_small hlt
            have hp0 := Wh.p32_pos g
            have hrq : r ≤ 2147483648 := by omega
            have hmul : r * 32 ^ g ≤ 2147483648 * 33554432 := Nat.mul_le_mul hrq hp
            have hshl : (r : Int) * 2 ^ (5 * g) = ((r * 32 ^ g : Nat) : Int) := by rw [Wh.p32]; simp
            have HF : Hid (t < r * 32 ^ g ∧ r * 32 ^ g ≤ 4611686018427387904 ∧ ∀ x ∈ L, r * 32 ^ g ≤ trn t x.2) := by
              refine ⟨Wh.lt_of_div (by rw [← HQ.out]; exact hqr), by omega, fun x hx => ?_⟩
              obtain ⟨h1, h2, _⟩ := HL.out x hx
              exact Wh.turn_hit h1 h2 HR32.out (HGl.out x hx) (HGe.out x hx)
            obtain ⟨y, HY⟩ : ∃ y, Hid (y = r * 32 ^ g) := ⟨_, rfl⟩
            rw [← HY.out] at hmul hshl HF
            clear hr0 hn0 hp hp0
            go_wp2
            go_ret
            exact ⟨rfl, y, by rw [← hshl]; rfl, HF.out⟩
    · have hg6 : g = 6 := by omega
      have HNo : Hid (∀ x ∈ L, (1000000001 : Nat) ≤ trn t x.2) := fun x hx => by
        obtain ⟨h1, h2, h3⟩ := HL.out x hx
        have h4 := (Wh.whl_in (show x.2 ≠ t by omega) h2 ht).2
        have := HGl.out x hx
        omega
      subst hg6
      go_wp2
      go_ret
      exact ⟨rfl, 1000000001, rfl, by omega, by omega, HNo.out⟩
end Go.Proofs.YtmgiiofjlgchfaaDoor
