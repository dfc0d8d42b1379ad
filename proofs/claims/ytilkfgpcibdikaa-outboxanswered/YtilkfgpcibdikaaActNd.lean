
/- act: names; and the document's. -/
import Derived.Test.YtilkfgpcibdikaaBase
import Derived.Test.YtilkfgpcibdikaaActM
namespace Go.Proofs.Ytilkfgpcibdikaa
open Go.RowKit

theorem aLetter_any (b : UInt8) (w : World) : Calls Try.prog 69 #[.int .u8 (b.toNat : Int)] w fun e w' => e = .returned (.bool (Act.letB b)) ∧ w' = w := by
  unfold Act.letB
  by_cases h0 : (97 : Int) ≤ (b.toNat : Int)
  · by_cases h1 : (b.toNat : Int) ≤ 122
    · rw [decide_eq_true h0, decide_eq_true h1]
      go_enter Try.func69, Try.ntmps69
      go_wp2
      go_ret
      exact ⟨rfl, rfl⟩
    · rw [decide_eq_true h0, decide_eq_false h1]
      go_enter Try.func69, Try.ntmps69
      go_wp2
      go_ret
      exact ⟨rfl, rfl⟩
  · rw [decide_eq_false h0]
    go_enter Try.func69, Try.ntmps69
    go_wp2
    go_ret
    exact ⟨rfl, rfl⟩
theorem aDigit_any (b : UInt8) (w : World) : Calls Try.prog 70 #[.int .u8 (b.toNat : Int)] w fun e w' => e = .returned (.bool (Act.digB b)) ∧ w' = w := by
  unfold Act.digB
  by_cases h0 : (48 : Int) ≤ (b.toNat : Int)
  · by_cases h1 : (b.toNat : Int) ≤ 57
    · rw [decide_eq_true h0, decide_eq_true h1]
      go_enter Try.func70, Try.ntmps70
      go_wp2
      go_ret
      exact ⟨rfl, rfl⟩
    · rw [decide_eq_true h0, decide_eq_false h1]
      go_enter Try.func70, Try.ntmps70
      go_wp2
      go_ret
      exact ⟨rfl, rfl⟩
  · rw [decide_eq_false h0]
    go_enter Try.func70, Try.ntmps70
    go_wp2
    go_ret
    exact ⟨rfl, rfl⟩

set_option maxHeartbeats 4000000 in
set_option maxRecDepth 100000 in
theorem name_any (s : ByteArray) (w : World) (hs : s.size ≤ 9223372036854775807) : Calls Try.prog 61 #[.string s] w fun e w' => e = .returned (.bool (Act.nameB s)) ∧ w' = w := by
  by_cases hz : s.size = 0
  · have HE : Hid (Act.nameB s = false) := Act.name_empty s hz
    have hb : (s.toList == []) = true := by
      rw [show s.toList = s.data.toList from ByteArray.toList_eq s]
      have hl : s.data.toList.length = s.size := by simp
      rw [List.length_eq_zero_iff.1 (hl.trans hz)]; rfl
    go_enter Try.func61, Try.ntmps61
    go_wp2
    go_ret
    exact ⟨by rw [HE.out]; rfl, rfl⟩
  have hb : (s.toList == []) = false := by
    rw [show s.toList = s.data.toList from ByteArray.toList_eq s]
    have hl : s.data.toList.length = s.size := by simp
    rw [beq_eq_false_iff_ne]
    intro e; rw [e] at hl; simp at hl; omega
  have hp : 0 < s.size := by omega
  by_cases h16 : (16 : Int) < (s.size : Int)
  · have HE : Hid (Act.nameB s = false) := Act.name_long s (by omega)
    go_enter Try.func61, Try.ntmps61
    go_wp2
    go_ret
    exact ⟨by rw [HE.out]; rfl, rfl⟩
  have HL : Hid (∀ (b : UInt8) (w : World), Calls Try.prog 69 #[.int .u8 (b.toNat : Int)] w fun e w' => e = .returned (.bool (Act.letB b)) ∧ w' = w) := aLetter_any
  have HD : Hid (∀ (b : UInt8) (w : World), Calls Try.prog 70 #[.int .u8 (b.toNat : Int)] w fun e w' => e = .returned (.bool (Act.digB b)) ∧ w' = w) := aDigit_any
  cases h0 : Act.letB (s[0]'hp) with
  | false =>
    have HE : Hid (Act.nameB s = false) := Act.name_head s hp h0
    go_enter Try.func61, Try.ntmps61
    go_wp2_with fail
    refine (HL.out (s[0]'hp) _).mono ?_
    rintro e w1 ⟨rfl, hw1⟩; obtain rfl := hw1.symm
    go_wp2
    go_ret
    exact ⟨by rw [HE.out]; rfl, rfl⟩
  | true =>
    go_enter Try.func61, Try.ntmps61
    go_wp2_with fail
    refine (HL.out (s[0]'hp) _).mono ?_
    rintro e w1 ⟨rfl, hw1⟩; obtain rfl := hw1.symm
    go_wp2
    go_loop [19] (fun i => ∃ k : Nat, k ≤ s.size ∧ i = .int .i64 k ∧ ∀ j (hj : j < s.size), j < k → Act.sgnB (s[j]'hj) = true) (fun i => s.size - (intOf i).toNat)
    case atStart => exact ⟨0, by omega, rfl, fun j hj h => absurd h (by omega)⟩
    case round =>
      obtain ⟨k, hk, rfl, hall⟩ := hrel
      have HA : Hid (∀ j (hj : j < s.size), j < k → Act.sgnB (s[j]'hj) = true) := hall
      clear hall
      by_cases hlt : k < s.size
      · cases hlk : Act.letB (s[k]'hlt) with
        | true =>
          have HS : Hid (Act.sgnB (s[k]'hlt) = true) := Act.sgn_let hlk
          go_wp2_with fail
          refine (HL.out (s[k]'hlt) _).mono ?_
          rintro e w1 ⟨rfl, hw1⟩; obtain rfl := hw1.symm
          go_wp2
          go_round
          case rel => exact ⟨k + 1, by omega, by go_num, fun j hj h => if e : j = k then by subst e; exact HS.out else HA.out j hj (by omega)⟩
          case measure => simp [intOf]; omega
        | false =>
          cases hdk : Act.digB (s[k]'hlt) with
          | true =>
            have HS : Hid (Act.sgnB (s[k]'hlt) = true) := Act.sgn_dig hdk
            go_wp2_with fail
            refine (HL.out (s[k]'hlt) _).mono ?_
            rintro e w1 ⟨rfl, hw1⟩; obtain rfl := hw1.symm
            go_wp2_with fail
            refine (HD.out (s[k]'hlt) _).mono ?_
            rintro e w1 ⟨rfl, hw1⟩; obtain rfl := hw1.symm
            go_wp2
            go_round
            case rel => exact ⟨k + 1, by omega, by go_num, fun j hj h => if e : j = k then by subst e; exact HS.out else HA.out j hj (by omega)⟩
            case measure => simp [intOf]; omega
          | false =>
            have HE : Hid (Act.nameB s = false) := Act.name_sign s k hlt (Act.sgn_no hlk hdk)
            go_wp2_with fail
            refine (HL.out (s[k]'hlt) _).mono ?_
            rintro e w1 ⟨rfl, hw1⟩; obtain rfl := hw1.symm
            go_wp2_with fail
            refine (HD.out (s[k]'hlt) _).mono ?_
            rintro e w1 ⟨rfl, hw1⟩; obtain rfl := hw1.symm
            go_wp2
            go_ret
            exact ⟨by rw [HE.out]; rfl, rfl⟩
      · have HE : Hid (Act.nameB s = true) := Act.name_yes s hp (by omega) h0 (fun j hj => HA.out j hj (by omega))
        go_wp2
        go_ret
        exact ⟨by rw [HE.out]; rfl, rfl⟩
end Go.Proofs.Ytilkfgpcibdikaa
