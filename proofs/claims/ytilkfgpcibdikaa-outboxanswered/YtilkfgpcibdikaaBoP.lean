
/- backoff: Delay, Next, Within. -/
import Derived.Test.YtilkfgpcibdikaaIntA
import Derived.Test.YtilkfgpcibdikaaBoM
import Derived.WalkSmall
namespace Go.Proofs.Ytilkfgpcibdikaa
open Go.RowKit

set_option maxHeartbeats 1000000 in
set_option maxRecDepth 100000 in
theorem delay_any (n : Int) (w : World) :
    Calls Try.prog 22 #[.int .i64 n] w fun e w' => e = .returned (.int .i64 (Bo.delE n)) ∧ w' = w := by
  go_enter Try.func22, Try.ntmps22
  go_wp2
  go_loop [3, 5] (fun d i => ∃ k : Nat, k < 3 ∧ ((k : Int) ≤ n ∨ k = 0) ∧ i = .int .i64 k ∧ d = .int .i64 (Bo.delE k)) (fun _ i => 3 - (intOf i).toNat)
  case atStart => exact ⟨0, by omega, Or.inr rfl, rfl, rfl⟩
  case round =>
    obtain ⟨k, hk, hkn, rfl, rfl⟩ := hrel
    by_cases hlt : (k : Int) < n
    · match k, hk with
      | 0, _ =>
        have hlt' : (0 : Int) < n := by omega
        have e0 : Bo.delE ((0 : Nat) : Int) = 1 := rfl
        rw [e0]
        go_wp2
        go_round
        case rel => exact ⟨1, by omega, by omega, by go_num, rfl⟩
        case measure => simp [intOf]
      | 1, _ =>
        have hlt' : (1 : Int) < n := by omega
        have e0 : Bo.delE ((1 : Nat) : Int) = 2 := rfl
        rw [e0]
        go_wp2
        go_round
        case rel => exact ⟨2, by omega, by omega, by go_num, rfl⟩
        case measure => simp [intOf]
      | 2, _ =>
        have hlt' : (2 : Int) < n := by omega
        have e0 : Bo.delE ((2 : Nat) : Int) = 4 := rfl
        have HE : Hid (Bo.delE n = 8) := Bo.del_cap (by omega)
        rw [e0]
        go_wp2
        go_ret
        exact ⟨by rw [HE.out]; rfl, rfl⟩
    · have HE : Hid (Bo.delE n = Bo.delE k) := by
        show _ = _
        unfold Bo.delE
        repeat' split
        all_goals omega
      generalize Bo.delE (k : Int) = d at *
      go_wp2
      go_ret
      exact ⟨by rw [HE.out]; rfl, rfl⟩

theorem i64_id (n : Int) (h0 : -9223372036854775808 ≤ n) (h1 : n ≤ 9223372036854775807) : IntKind.i64.wrap n = n := by rw [IntKind.wrap_i64]; omega

set_option maxHeartbeats 1000000 in
set_option maxRecDepth 100000 in
theorem next_any (now n : Int) (w : World) :
    Calls Try.prog 49 #[.int .i64 now, .int .i64 n] w fun e w' => e = .returned (.tuple #[.int .i64 (Bo.nextE now n), .int .i64 (Bo.nextF now)]) ∧ w' = w := by
  have HD : Hid (Calls Try.prog 22 #[.int .i64 n] w fun e w' => e = .returned (.int .i64 (Bo.delE n)) ∧ w' = w) := delay_any n w
  have hd := Bo.del_range n
  by_cases hb : Bo.nextB now = true
  · have E1 : Hid (Bo.nextE now n = now + Bo.delE n) := by show _ = _; unfold Bo.nextE; rw [if_pos hb]
    have E2 : Hid (Bo.nextF now = 0) := by show _ = _; unfold Bo.nextF; rw [if_pos hb]
    simp only [Bo.nextB, Bool.and_eq_true, decide_eq_true_eq] at hb
    obtain ⟨h0, h1⟩ := hb
    generalize Bo.delE n = d at *
    go_enter Try.func49, Try.ntmps49
    go_wp2_with fail
    refine HD.out.mono ?_
    rintro e w1 ⟨rfl, hww⟩; obtain rfl := hww.symm
    go_wp2
    go_ret2
    exact ⟨by rw [E1.out, E2.out]; rfl, rfl⟩
  · have E1 : Hid (Bo.nextE now n = 0) := by show _ = _; unfold Bo.nextE; rw [if_neg hb]
    have E2 : Hid (Bo.nextF now = 110) := by show _ = _; unfold Bo.nextF; rw [if_neg hb]
    simp only [Bo.nextB, Bool.and_eq_true, decide_eq_true_eq] at hb
    by_cases h0 : now < 0
    · go_enter Try.func49, Try.ntmps49
      go_wp2
      go_ret2
      exact ⟨by rw [E1.out, E2.out]; rfl, rfl⟩
    · have h1 : 1000000000 < now := by omega
      go_enter Try.func49, Try.ntmps49
      go_wp2
      go_ret2
      exact ⟨by rw [E1.out, E2.out]; rfl, rfl⟩

end Go.Proofs.Ytilkfgpcibdikaa
