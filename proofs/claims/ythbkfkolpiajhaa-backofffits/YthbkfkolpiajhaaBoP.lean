
/- backoff: Delay, Next, Within. -/
import Derived.Test.YthbkfkolpiajhaaIntA
import Derived.Test.YthbkfkolpiajhaaBoM
import Derived.WalkSmall
namespace Go.Proofs.Ythbkfkolpiajhaa
open Go.RowKit

set_option maxHeartbeats 1000000 in
set_option maxRecDepth 100000 in
theorem delay_any (n : Int) (w : World) :
    Calls Try.prog 9 #[.int .i64 n] w fun e w' => e = .returned (.int .i64 (Bo.delE n)) ∧ w' = w := by
  go_enter Try.func9, Try.ntmps9
  go_wp2
  go_loop [3, 5] (fun d i => ∃ k : Nat, k < 3 ∧ ((k : Int) ≤ n ∨ k = 0) ∧ i = .int .i64 k ∧ d = .int .i64 (Bo.delE k)) (fun _ i => 3 - (intOf i).toNat)
  case atStart => exact ⟨0, by omega, Or.inr rfl, rfl, rfl⟩
  case round =>
    obtain ⟨k, hk, hkn, rfl, rfl⟩ := hrel
    by_cases hlt : (k : Int) < n
    · match k, hk with
      | 0, _ =>
        have hlt' : (0 : Int) < n := by omega
        have e0 : Bo.delE ((0 : Nat) : Int) = 1 := rfl
        rw [e0]
        go_wp2
        go_round
        case rel => exact ⟨1, by omega, by omega, by go_num, rfl⟩
        case measure => simp [intOf]
      | 1, _ =>
        have hlt' : (1 : Int) < n := by omega
        have e0 : Bo.delE ((1 : Nat) : Int) = 2 := rfl
        rw [e0]
        go_wp2
        go_round
        case rel => exact ⟨2, by omega, by omega, by go_num, rfl⟩
        case measure => simp [intOf]
      | 2, _ =>
        have hlt' : (2 : Int) < n := by omega
        have e0 : Bo.delE ((2 : Nat) : Int) = 4 := rfl
        have HE : Hid (Bo.delE n = 8) := Bo.del_cap (by omega)
        rw [e0]
        go_wp2
        go_ret
        exact ⟨by rw [HE.out]; rfl, rfl⟩
    · have HE : Hid (Bo.delE n = Bo.delE k) := by
        show _ = _
        unfold Bo.delE
        repeat' split
        all_goals omega
      generalize Bo.delE (k : Int) = d at *
      go_wp2
      go_ret
      exact ⟨by rw [HE.out]; rfl, rfl⟩

theorem i64_id (n : Int) (h0 : -9223372036854775808 ≤ n) (h1 : n ≤ 9223372036854775807) : IntKind.i64.wrap n = n := by rw [IntKind.wrap_i64]; omega

set_option maxHeartbeats 1000000 in
set_option maxRecDepth 100000 in
theorem next_any (now n : Int) (w : World) :
    Calls Try.prog 7 #[.int .i64 now, .int .i64 n] w fun e w' => e = .returned (.tuple #[.int .i64 (Bo.nextE now n), .int .i64 (Bo.nextF now)]) ∧ w' = w := by
  have HD : Hid (Calls Try.prog 9 #[.int .i64 n] w fun e w' => e = .returned (.int .i64 (Bo.delE n)) ∧ w' = w) := delay_any n w
  have hd := Bo.del_range n
  by_cases hb : Bo.nextB now = true
  · have E1 : Hid (Bo.nextE now n = now + Bo.delE n) := by show _ = _; unfold Bo.nextE; rw [if_pos hb]
    have E2 : Hid (Bo.nextF now = 0) := by show _ = _; unfold Bo.nextF; rw [if_pos hb]
    simp only [Bo.nextB, Bool.and_eq_true, decide_eq_true_eq] at hb
    obtain ⟨h0, h1⟩ := hb
    generalize Bo.delE n = d at *
    go_enter Try.func7, Try.ntmps7
    go_wp2_with fail
    refine HD.out.mono ?_
    rintro e w1 ⟨rfl, hww⟩; obtain rfl := hww.symm
    go_wp2
    go_ret2
    exact ⟨by rw [E1.out, E2.out]; rfl, rfl⟩
  · have E1 : Hid (Bo.nextE now n = 0) := by show _ = _; unfold Bo.nextE; rw [if_neg hb]
    have E2 : Hid (Bo.nextF now = 110) := by show _ = _; unfold Bo.nextF; rw [if_neg hb]
    simp only [Bo.nextB, Bool.and_eq_true, decide_eq_true_eq] at hb
    by_cases h0 : now < 0
    · go_enter Try.func7, Try.ntmps7
      go_wp2
      go_ret2
      exact ⟨by rw [E1.out, E2.out]; rfl, rfl⟩
    · have h1 : 1000000000 < now := by omega
      go_enter Try.func7, Try.ntmps7
      go_wp2
      go_ret2
      exact ⟨by rw [E1.out, E2.out]; rfl, rfl⟩

set_option maxHeartbeats 1000000 in
set_option maxRecDepth 100000 in
theorem within_any (s : Int) (w : World) (h0 : -9223372036854775808 ≤ s) :
    Calls Try.prog 14 #[.int .i64 s] w fun e w' => e = .returned (.int .i64 (Bo.withE s)) ∧ w' = w := by
  have HD : Hid (∀ n, Calls Try.prog 9 #[.int .i64 n] w fun e w' => e = .returned (.int .i64 (Bo.delE n)) ∧ w' = w) := fun n => delay_any n w
  by_cases hs : s ≤ 1000000
  · have HC : Hid (Bo.withE s = Bo.inE s) := by show _ = _; unfold Bo.withE Bo.capE; rw [if_neg (by omega)]
    go_enter Try.func14, Try.ntmps14
    go_wp2_with fail
    refine (HD.out 0).mono ?_
    rintro e w1 ⟨rfl, hww⟩; obtain rfl := hww.symm
    go_wp2
    go_loop [3, 4, 5] (fun l c d => ∃ k : Nat, k ≤ 3 ∧ c = .int .i64 k ∧ d = .int .i64 (Bo.delE k) ∧ l = .int .i64 (s - Bo.firstE k) ∧ (k = 0 ∨ Bo.firstE k ≤ s)) (fun _ c _ => 4 - (intOf c).toNat)
    case atStart => exact ⟨0, by omega, rfl, rfl, by rw [Bo.first_three.1]; simp, Or.inl rfl⟩
    case round =>
      obtain ⟨k, hk, rfl, rfl, rfl, hf⟩ := hrel
      have hfr := Bo.first_range k
      have hdr := Bo.del_range k
      have HS : Hid (Bo.firstE (k + 1) = Bo.firstE k + Bo.delE k) := rfl
      by_cases hle : Bo.delE k ≤ s - Bo.firstE k
      · by_cases hk3 : k = 3
        · subst hk3
          have e1 : Bo.delE ((3 : Nat) : Int) = 8 := rfl
          have e2 : Bo.firstE 3 = 7 := rfl
          rw [e1, e2] at hle ⊢
          have HI : Hid (Bo.inE s = 3 + (s - 7) / 8) := by show _ = _; unfold Bo.inE; rw [if_neg (by omega), if_neg (by omega), if_neg (by omega)]
          clear hf hfr hdr HS e1 e2
          go_wp2
          go_ret
          exact ⟨by rw [HC.out, HI.out]; simp, rfl⟩
        · have hd8 : ¬ (Bo.delE k = 8) := by
            unfold Bo.delE; repeat' split
            all_goals omega
          have HN : Hid (Calls Try.prog 9 #[.int .i64 ((k : Int) + 1)] w fun e w' => e = .returned (.int .i64 (Bo.delE ((k : Int) + 1))) ∧ w' = w) := HD.out _
          have HF : Hid (s - Bo.firstE k - Bo.delE k = s - Bo.firstE (k + 1)) := by show _ = _; rw [HS.out]; omega
          have HG : Hid (Bo.firstE (k + 1) ≤ s) := by show _ ≤ _; rw [HS.out]; omega
          generalize Bo.delE (k : Int) = d at *
          generalize Bo.firstE k = f at *
          go_wp2_with fail
          refine HN.out.mono ?_
          rintro e w1 ⟨rfl, hww⟩; obtain rfl := hww.symm
          go_wp2
          go_round
          case rel => exact ⟨k + 1, by omega, by go_num, by simp, by rw [HF.out], Or.inr HG.out⟩
          case measure => simp [intOf]; omega
      · have HI : Hid (Bo.inE s = k) := by
          show _ = _
          rcases hf with rfl | hf
          · rw [Bo.in_low]; rfl
            have e1 : Bo.delE ((0 : Nat) : Int) = 1 := rfl
            have e2 : Bo.firstE 0 = 0 := rfl
            omega
          · exact Bo.in_only hf (by rw [HS.out]; omega)
        generalize Bo.delE (k : Int) = d at *
        generalize Bo.firstE k = f at *
        go_wp2
        go_ret
        exact ⟨by rw [HC.out, HI.out]; rfl, rfl⟩
  · have HC : Hid (Bo.withE s = Bo.inE 1000000) := by show _ = _; unfold Bo.withE Bo.capE; rw [if_pos (by omega)]
    go_enter Try.func14, Try.ntmps14
    go_wp2_with fail
    refine (HD.out 0).mono ?_
    rintro e w1 ⟨rfl, hww⟩; obtain rfl := hww.symm
    go_wp2
    go_loop [3, 4, 5] (fun l c d => ∃ k : Nat, k ≤ 3 ∧ c = .int .i64 k ∧ d = .int .i64 (Bo.delE k) ∧ l = .int .i64 (1000000 - Bo.firstE k) ∧ (k = 0 ∨ Bo.firstE k ≤ 1000000)) (fun _ c _ => 4 - (intOf c).toNat)
    case atStart => exact ⟨0, by omega, rfl, rfl, by rw [Bo.first_three.1]; simp, Or.inl rfl⟩
    case round =>
      obtain ⟨k, hk, rfl, rfl, rfl, hf⟩ := hrel
      have hfr := Bo.first_range k
      have hdr := Bo.del_range k
      have HS : Hid (Bo.firstE (k + 1) = Bo.firstE k + Bo.delE k) := rfl
      by_cases hle : Bo.delE k ≤ 1000000 - Bo.firstE k
      · by_cases hk3 : k = 3
        · subst hk3
          have e1 : Bo.delE ((3 : Nat) : Int) = 8 := rfl
          have e2 : Bo.firstE 3 = 7 := rfl
          rw [e1, e2] at hle ⊢
          have HI : Hid (Bo.inE 1000000 = 3 + (1000000 - 7) / 8) := by show _ = _; unfold Bo.inE; rw [if_neg (by omega), if_neg (by omega), if_neg (by omega)]
          clear hf hfr hdr HS e1 e2
          go_wp2
          go_ret
          exact ⟨by rw [HC.out, HI.out]; simp, rfl⟩
        · have hd8 : ¬ (Bo.delE k = 8) := by
            unfold Bo.delE; repeat' split
            all_goals omega
          have HN : Hid (Calls Try.prog 9 #[.int .i64 ((k : Int) + 1)] w fun e w' => e = .returned (.int .i64 (Bo.delE ((k : Int) + 1))) ∧ w' = w) := HD.out _
          have HF : Hid (1000000 - Bo.firstE k - Bo.delE k = 1000000 - Bo.firstE (k + 1)) := by show _ = _; rw [HS.out]; omega
          have HG : Hid (Bo.firstE (k + 1) ≤ 1000000) := by show _ ≤ _; rw [HS.out]; omega
          generalize Bo.delE (k : Int) = d at *
          generalize Bo.firstE k = f at *
          go_wp2_with fail
          refine HN.out.mono ?_
          rintro e w1 ⟨rfl, hww⟩; obtain rfl := hww.symm
          go_wp2
          go_round
          case rel => exact ⟨k + 1, by omega, by go_num, by simp, by rw [HF.out], Or.inr HG.out⟩
          case measure => simp [intOf]; omega
      · have HI : Hid (Bo.inE 1000000 = k) := by
          show _ = _
          rcases hf with rfl | hf
          · rw [Bo.in_low]; rfl
            have e1 : Bo.delE ((0 : Nat) : Int) = 1 := rfl
            have e2 : Bo.firstE 0 = 0 := rfl
            omega
          · exact Bo.in_only hf (by rw [HS.out]; omega)
        generalize Bo.delE (k : Int) = d at *
        generalize Bo.firstE k = f at *
        go_wp2
        go_ret
        exact ⟨by rw [HC.out, HI.out]; rfl, rfl⟩
end Go.Proofs.Ythbkfkolpiajhaa
