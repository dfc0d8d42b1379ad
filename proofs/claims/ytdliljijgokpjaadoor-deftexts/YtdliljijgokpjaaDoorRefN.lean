/- The document's names. -/
import Derived.Test.YtdliljijgokpjaaDoorBase
import Derived.Test.YtdliljijgokpjaaDoorActM
namespace Go.Proofs.YtdliljijgokpjaaDoor
open Go.RowKit

theorem let_parts {b : UInt8} (h : Act.letB b = true) : (97 : Int) ≤ (b.toNat : Int) ∧ (b.toNat : Int) ≤ 122 := by
  unfold Act.letB at h; simpa only [Bool.and_eq_true, decide_eq_true_eq] using h
theorem dig_parts {b : UInt8} (h : Act.digB b = true) : (48 : Int) ≤ (b.toNat : Int) ∧ (b.toNat : Int) ≤ 57 := by
  unfold Act.digB at h; simpa only [Bool.and_eq_true, decide_eq_true_eq] using h

set_option maxHeartbeats 4000000 in
set_option maxRecDepth 100000 in
theorem refName_any (s : ByteArray) (w : World) (hs : s.size ≤ 9223372036854775807) : Calls Tryd.prog 30 #[.string s] w fun e w' => e = .returned (.bool (Act.nameB s)) ∧ w' = w := by
  by_cases hz : (s.size : Int) < 1
  · have HE : Hid (Act.nameB s = false) := Act.name_empty s (by omega)
    go_enter Tryd.func30, Tryd.ntmps30
    go_wp2
    go_ret
    exact ⟨by rw [HE.out]; rfl, rfl⟩
  have hp : 0 < s.size := by omega
  by_cases h16 : (16 : Int) < (s.size : Int)
  · have HE : Hid (Act.nameB s = false) := Act.name_long s (by omega)
    go_enter Tryd.func30, Tryd.ntmps30
    go_wp2
    go_ret
    exact ⟨by rw [HE.out]; rfl, rfl⟩
  go_enter Tryd.func30, Tryd.ntmps30
  go_wp2
  go_loop [3] (fun i => ∃ k : Nat, k ≤ s.size ∧ i = .int .i64 k ∧ (0 < k → Act.letB (s[0]'hp) = true) ∧ ∀ j (hj : j < s.size), j < k → Act.sgnB (s[j]'hj) = true) (fun i => s.size - (intOf i).toNat)
  case atStart => exact ⟨0, by omega, rfl, fun h => absurd h (by omega), fun j hj h => absurd h (by omega)⟩
  case round =>
    obtain ⟨k, hk, rfl, hfirst, hall⟩ := hrel
    have HA : Hid (∀ j (hj : j < s.size), j < k → Act.sgnB (s[j]'hj) = true) := hall
    have HF : Hid (0 < k → Act.letB (s[0]'hp) = true) := hfirst
    clear hall hfirst
    by_cases hlt : k < s.size
    · cases hlk : Act.letB (s[k]'hlt) with
      | true =>
        have HS : Hid (Act.sgnB (s[k]'hlt) = true) := Act.sgn_let hlk
        have HK : Hid (Act.letB (s[k]'hlt) = true) := hlk
        obtain ⟨h1, h2⟩ := let_parts hlk
        have h3 : ¬ (((s[k]'hlt).toNat : Int) ≤ 57) := by omega
        have h4 : (48 : Int) ≤ ((s[k]'hlt).toNat : Int) := by omega
        clear hlk
        obtain ⟨b, hb⟩ : ∃ b, s[k]'hlt = b := ⟨_, rfl⟩
        have hb' : ((s[k]'hlt).toNat : Int) = (b.toNat : Int) := by rw [hb]
        rw [hb] at h1 h2 h3 h4
        clear hb
        by_cases hk0 : k = 0
        · subst hk0
          go_wp2
          go_round
          case rel => exact ⟨0 + 1, by omega, by go_num, fun _ => HK.out, fun j hj h => if e : j = 0 then by subst e; exact HS.out else HA.out j hj (by omega)⟩
          case measure => simp [intOf]; omega
        · have hk1 : ((k : Int) == 0) = false := by rw [beq_eq_false_iff_ne]; omega
          go_wp2
          go_round
          case rel => exact ⟨k + 1, by omega, by go_num, fun _ => HF.out (by omega), fun j hj h => if e : j = k then by subst e; exact HS.out else HA.out j hj (by omega)⟩
          case measure => simp [intOf]; omega
      | false =>
        cases hdk : Act.digB (s[k]'hlt) with
        | true =>
          have HS : Hid (Act.sgnB (s[k]'hlt) = true) := Act.sgn_dig hdk
          obtain ⟨h1, h2⟩ := dig_parts hdk
          have h3 : ¬ ((97 : Int) ≤ ((s[k]'hlt).toNat : Int)) := by omega
          have HK : Hid (Act.letB (s[k]'hlt) = false) := hlk
          clear hlk hdk
          obtain ⟨b, hb⟩ : ∃ b, s[k]'hlt = b := ⟨_, rfl⟩
          have hb' : ((s[k]'hlt).toNat : Int) = (b.toNat : Int) := by rw [hb]
          rw [hb] at h1 h2 h3
          clear hb
          by_cases hk0 : k = 0
          · subst hk0
            have HE : Hid (Act.nameB s = false) := Act.name_head s hp HK.out
            go_wp2
            go_ret
            exact ⟨by rw [HE.out]; rfl, rfl⟩
          · have hk1 : ((k : Int) == 0) = false := by rw [beq_eq_false_iff_ne]; omega
            go_wp2
            go_round
            case rel => exact ⟨k + 1, by omega, by go_num, fun _ => HF.out (by omega), fun j hj h => if e : j = k then by subst e; exact HS.out else HA.out j hj (by omega)⟩
            case measure => simp [intOf]; omega
        | false =>
          have HE : Hid (Act.nameB s = false) := Act.name_sign s k hlt (Act.sgn_no hlk hdk)
          obtain ⟨x, hx⟩ : ∃ x, Act.letB (s[k]'hlt) = x := ⟨_, rfl⟩
          have hx1 : (decide ((97 : Int) ≤ ((s[k]'hlt).toNat : Int)) && decide (((s[k]'hlt).toNat : Int) ≤ 122)) = false := hlk
          have hx2 : (decide ((48 : Int) ≤ ((s[k]'hlt).toNat : Int)) && decide (((s[k]'hlt).toNat : Int) ≤ 57)) = false := hdk
          clear hlk hdk hx
          obtain ⟨b, hb⟩ : ∃ b, s[k]'hlt = b := ⟨_, rfl⟩
          have hb' : ((s[k]'hlt).toNat : Int) = (b.toNat : Int) := by rw [hb]
          rw [hb] at hx1 hx2
          clear hb
          have hor : ((b.toNat : Int) < 48 ∨ (57 < (b.toNat : Int) ∧ (b.toNat : Int) < 97)) ∨ 122 < (b.toNat : Int) := by
            simp only [Bool.and_eq_false_iff, decide_eq_false_iff_not] at hx1 hx2
            omega
          clear hx1 hx2
          rcases hor with (h1 | ⟨h1, h2⟩) | h1
          · have k1 : ¬ ((97 : Int) ≤ (b.toNat : Int)) := by omega
            have k2 : ¬ ((48 : Int) ≤ (b.toNat : Int)) := by omega
            clear h1
            go_wp2
            go_ret
            exact ⟨by rw [HE.out]; rfl, rfl⟩
          · have k1 : ¬ ((97 : Int) ≤ (b.toNat : Int)) := by omega
            have k2 : (48 : Int) ≤ (b.toNat : Int) := by omega
            have k3 : ¬ ((b.toNat : Int) ≤ 57) := by omega
            clear h1 h2
            go_wp2
            go_ret
            exact ⟨by rw [HE.out]; rfl, rfl⟩
          · have k1 : (97 : Int) ≤ (b.toNat : Int) := by omega
            have k2 : (48 : Int) ≤ (b.toNat : Int) := by omega
            have k3 : ¬ ((b.toNat : Int) ≤ 57) := by omega
            have k4 : ¬ ((b.toNat : Int) ≤ 122) := by omega
            clear h1
            go_wp2
            go_ret
            exact ⟨by rw [HE.out]; rfl, rfl⟩
    · have HE : Hid (Act.nameB s = true) := Act.name_yes s hp (by omega) (HF.out (by omega)) (fun j hj => HA.out j hj (by omega))
      go_wp2
      go_ret
      exact ⟨by rw [HE.out]; rfl, rfl⟩
end Go.Proofs.YtdliljijgokpjaaDoor
