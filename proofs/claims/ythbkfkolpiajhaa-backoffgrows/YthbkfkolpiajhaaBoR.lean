
/- The document's Delay, Next, Within; Total of the program and of the document. -/
import Derived.Test.YthbkfkolpiajhaaBoP
namespace Go.Proofs.Ythbkfkolpiajhaa
open Go.RowKit

set_option maxHeartbeats 1000000 in
set_option maxRecDepth 100000 in
theorem refDelay_any (n : Int) (w : World) :
    Calls Try.prog 10 #[.int .i64 n] w fun e w' => e = .returned (.int .i64 (Bo.delE n)) ∧ w' = w := by
  by_cases h0 : n < 1
  · have HE : Hid (Bo.delE n = 1) := Bo.del_base h0
    go_enter Try.func10, Try.ntmps10
    go_wp2
    go_ret
    exact ⟨by rw [HE.out]; rfl, rfl⟩
  · by_cases h1 : n = 1
    · subst h1
      go_enter Try.func10, Try.ntmps10
      go_wp2
      go_ret
      exact ⟨rfl, rfl⟩
    · by_cases h2 : n = 2
      · subst h2
        go_enter Try.func10, Try.ntmps10
        go_wp2
        go_ret
        exact ⟨rfl, rfl⟩
      · have HE : Hid (Bo.delE n = 8) := Bo.del_cap (by omega)
        go_enter Try.func10, Try.ntmps10
        go_wp2
        go_ret
        exact ⟨by rw [HE.out]; rfl, rfl⟩

set_option maxHeartbeats 1000000 in
set_option maxRecDepth 100000 in
theorem refNext_any (now n : Int) (w : World) :
    Calls Try.prog 8 #[.int .i64 now, .int .i64 n] w fun e w' => e = .returned (.tuple #[.int .i64 (Bo.nextE now n), .int .i64 (Bo.nextF now)]) ∧ w' = w := by
  have HD : Hid (Calls Try.prog 10 #[.int .i64 n] w fun e w' => e = .returned (.int .i64 (Bo.delE n)) ∧ w' = w) := refDelay_any n w
  have hd := Bo.del_range n
  by_cases hb : Bo.nextB now = true
  · have E1 : Hid (Bo.nextE now n = now + Bo.delE n) := by show _ = _; unfold Bo.nextE; rw [if_pos hb]
    have E2 : Hid (Bo.nextF now = 0) := by show _ = _; unfold Bo.nextF; rw [if_pos hb]
    simp only [Bo.nextB, Bool.and_eq_true, decide_eq_true_eq] at hb
    obtain ⟨h0, h1⟩ := hb
    generalize Bo.delE n = d at *
    go_enter Try.func8, Try.ntmps8
    go_wp2_with fail
    refine HD.out.mono ?_
    rintro e w1 ⟨rfl, hww⟩; obtain rfl := hww.symm
    go_wp2
    go_ret2
    exact ⟨by rw [E1.out, E2.out]; rfl, rfl⟩
  · have E1 : Hid (Bo.nextE now n = 0) := by show _ = _; unfold Bo.nextE; rw [if_neg hb]
    have E2 : Hid (Bo.nextF now = 110) := by show _ = _; unfold Bo.nextF; rw [if_neg hb]
    simp only [Bo.nextB, Bool.and_eq_true, decide_eq_true_eq] at hb
    by_cases h0 : now < 0
    · go_enter Try.func8, Try.ntmps8
      go_wp2
      go_ret2
      exact ⟨by rw [E1.out, E2.out]; rfl, rfl⟩
    · have h1 : 1000000000 < now := by omega
      go_enter Try.func8, Try.ntmps8
      go_wp2
      go_ret2
      exact ⟨by rw [E1.out, E2.out]; rfl, rfl⟩

set_option maxHeartbeats 1000000 in
set_option maxRecDepth 100000 in
theorem refWithin_any (s : Int) (w : World) (h0 : -9223372036854775808 ≤ s) :
    Calls Try.prog 15 #[.int .i64 s] w fun e w' => e = .returned (.int .i64 (Bo.withE s)) ∧ w' = w := by
  by_cases hs : 1000000 < s
  · have HW : Hid (Bo.withE s = 125002) := by show _ = _; unfold Bo.withE Bo.capE; rw [if_pos hs]; rfl
    go_enter Try.func15, Try.ntmps15
    go_wp2
    go_ret
    exact ⟨by rw [HW.out]; rfl, rfl⟩
  · by_cases h1 : s < 1
    · have HW : Hid (Bo.withE s = 0) := by show _ = _; rw [Bo.with_is (by omega)]; unfold Bo.inE; rw [if_pos h1]
      go_enter Try.func15, Try.ntmps15
      go_wp2
      go_ret
      exact ⟨by rw [HW.out]; rfl, rfl⟩
    · by_cases h2 : s < 3
      · have HW : Hid (Bo.withE s = 1) := by show _ = _; rw [Bo.with_is (by omega)]; unfold Bo.inE; rw [if_neg h1, if_pos h2]
        go_enter Try.func15, Try.ntmps15
        go_wp2
        go_ret
        exact ⟨by rw [HW.out]; rfl, rfl⟩
      · by_cases h3 : s < 7
        · have HW : Hid (Bo.withE s = 2) := by show _ = _; rw [Bo.with_is (by omega)]; unfold Bo.inE; rw [if_neg h1, if_neg h2, if_pos h3]
          go_enter Try.func15, Try.ntmps15
          go_wp2
          go_ret
          exact ⟨by rw [HW.out]; rfl, rfl⟩
        · have HW : Hid (Bo.withE s = 3 + (s - 7) / 8) := by show _ = _; rw [Bo.with_is (by omega)]; unfold Bo.inE; rw [if_neg h1, if_neg h2, if_neg h3]
          go_enter Try.func15, Try.ntmps15
          go_wp2
          go_ret
          exact ⟨by rw [HW.out]; rfl, rfl⟩

set_option maxHeartbeats 1000000 in
set_option maxRecDepth 100000 in
theorem total_any (l : List Int) (ad : Option Addr) (cap : Nat) (w : World) (hL : IntsAt w ad l) (hn : l.length ≤ 9223372036854775807) :
    Calls Try.prog 12 #[.slice ad l.length cap] w fun e w' => e = .returned (.tuple #[.int .i64 (Bo.totE l), .int .i64 (Bo.totF l)]) ∧ w' = w := by
  have HL : Hid (IntsAt w ad l) := hL
  clear hL
  by_cases hb : 1000 < l.length
  · have E1 : Hid (Bo.totE l = 0) := by show _ = _; unfold Bo.totE; rw [if_pos hb]
    have E2 : Hid (Bo.totF l = 3) := by show _ = _; unfold Bo.totF; rw [if_pos hb]
    have hb' : (1000 : Int) < (l.length : Int) := by omega
    go_enter Try.func12, Try.ntmps12
    go_wp2
    go_ret2
    exact ⟨by rw [E1.out, E2.out]; rfl, rfl⟩
  · have E1 : Hid (Bo.totE l = Bo.sumE l) := by show _ = _; unfold Bo.totE; rw [if_neg hb]
    have E2 : Hid (Bo.totF l = 0) := by show _ = _; unfold Bo.totF; rw [if_neg hb]
    have hb' : ¬ ((1000 : Int) < (l.length : Int)) := by omega
    go_enter Try.func12, Try.ntmps12
    go_wp2
    go_loop [4, 12] (fun t i => ∃ k : Nat, k ≤ l.length ∧ i = .int .i64 k ∧ t = .int .i64 (Bo.sumE (l.take k))) (fun _ i => l.length - (intOf i).toNat)
    case atStart => exact ⟨0, by omega, rfl, rfl⟩
    case round =>
      obtain ⟨k, hk, rfl, rfl⟩ := hrel
      by_cases hlt : k < l.length
      · obtain ⟨b, off, rfl, hbl, hc⟩ := HL.out k hlt
        have HM : Hid (Bo.sumE (l.take (k + 1)) = Bo.sumE (l.take k) + Bo.delE l[k]) := Bo.sum_take l k hlt
        have hr := Bo.sum_take_range l k hk
        have hd := Bo.del_range l[k]
        have HD : Hid (Calls Try.prog 9 #[.int .i64 l[k]] w fun e w' => e = .returned (.int .i64 (Bo.delE l[k])) ∧ w' = w) := delay_any l[k] w
        generalize Bo.delE l[k] = d at *
        generalize l[k] = a at *
        generalize Bo.sumE (l.take k) = s at *
        go_wp2_with fail
        refine HD.out.mono ?_
        rintro e w1 ⟨rfl, hww⟩; obtain rfl := hww.symm
        go_wp2
        go_round
        case rel => exact ⟨k + 1, by omega, by go_num, by rw [HM.out]⟩
        case measure => simp [intOf]; omega
      · have HE : Hid (l.take k = l) := List.take_of_length_le (by omega)
        rw [HE.out]
        go_wp2
        go_ret2
        exact ⟨by rw [E1.out, E2.out]; rfl, rfl⟩

set_option maxHeartbeats 1000000 in
set_option maxRecDepth 100000 in
theorem refTotal_any (l : List Int) (ad : Option Addr) (cap : Nat) (w : World) (hL : IntsAt w ad l) (hn : l.length ≤ 9223372036854775807) :
    Calls Try.prog 13 #[.slice ad l.length cap] w fun e w' => e = .returned (.tuple #[.int .i64 (Bo.totE l), .int .i64 (Bo.totF l)]) ∧ w' = w := by
  have HL : Hid (IntsAt w ad l) := hL
  clear hL
  by_cases hb : 1000 < l.length
  · have E1 : Hid (Bo.totE l = 0) := by show _ = _; unfold Bo.totE; rw [if_pos hb]
    have E2 : Hid (Bo.totF l = 3) := by show _ = _; unfold Bo.totF; rw [if_pos hb]
    have hb' : (1000 : Int) < (l.length : Int) := by omega
    go_enter Try.func13, Try.ntmps13
    go_wp2
    go_ret2
    exact ⟨by rw [E1.out, E2.out]; rfl, rfl⟩
  · have E1 : Hid (Bo.totE l = Bo.sumE l) := by show _ = _; unfold Bo.totE; rw [if_neg hb]
    have E2 : Hid (Bo.totF l = 0) := by show _ = _; unfold Bo.totF; rw [if_neg hb]
    have hb' : ¬ ((1000 : Int) < (l.length : Int)) := by omega
    go_enter Try.func13, Try.ntmps13
    go_wp2
    go_loop [4, 5] (fun t i => ∃ k : Nat, k ≤ l.length ∧ i = .int .i64 k ∧ t = .int .i64 (Bo.sumE (l.take k))) (fun _ i => l.length - (intOf i).toNat)
    case atStart => exact ⟨0, by omega, rfl, rfl⟩
    case round =>
      obtain ⟨k, hk, rfl, rfl⟩ := hrel
      by_cases hlt : k < l.length
      · obtain ⟨b, off, rfl, hbl, hc⟩ := HL.out k hlt
        have HM : Hid (Bo.sumE (l.take (k + 1)) = Bo.sumE (l.take k) + Bo.delE l[k]) := Bo.sum_take l k hlt
        have hr := Bo.sum_take_range l k hk
        have hd := Bo.del_range l[k]
        have HD : Hid (Calls Try.prog 10 #[.int .i64 l[k]] w fun e w' => e = .returned (.int .i64 (Bo.delE l[k])) ∧ w' = w) := refDelay_any l[k] w
        generalize Bo.delE l[k] = d at *
        generalize l[k] = a at *
        generalize Bo.sumE (l.take k) = s at *
        go_wp2_with fail
        refine HD.out.mono ?_
        rintro e w1 ⟨rfl, hww⟩; obtain rfl := hww.symm
        go_wp2
        go_round
        case rel => exact ⟨k + 1, by omega, by go_num, by rw [HM.out]⟩
        case measure => simp [intOf]; omega
      · have HE : Hid (l.take k = l) := List.take_of_length_le (by omega)
        rw [HE.out]
        go_wp2
        go_ret2
        exact ⟨by rw [E1.out, E2.out]; rfl, rfl⟩
end Go.Proofs.Ythbkfkolpiajhaa
