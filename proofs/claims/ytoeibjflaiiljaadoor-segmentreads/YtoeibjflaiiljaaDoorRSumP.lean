
/- The document's Sum reckons Sl.sum. -/
import Derived.Test.YtoeibjflaiiljaaDoorSumP
namespace Go.Proofs.YtoeibjflaiiljaaDoor
open Go.RowKit

set_option maxHeartbeats 1000000 in
set_option maxRecDepth 100000 in
theorem refSum_any (s : ByteArray) (w : World) (hs : s.size ≤ 9223372036854775807) :
    Calls Tryd.prog 21 #[.string s] w fun e w' => e = .returned (.int .u64 (Sl.sum s.data.toList : Nat)) ∧ w' = w := by
  have hl : s.data.toList.length = s.size := by simp
  go_enter Tryd.func21, Tryd.ntmps21
  go_wp2
  go_loop [3, 4] (fun r i => ∃ j x : Nat, j ≤ s.size ∧ x < 18446744073709551616 ∧ i = .int .i64 j ∧ r = .int .u64 x ∧ x = Sl.crc Sl.ones (s.data.toList.take j)) (fun _ i => s.size - (intOf i).toNat)
  case atStart => exact ⟨0, 18446744073709551615, by omega, by omega, rfl, rfl, rfl⟩
  case round =>
    obtain ⟨j, x, hj, hx, rfl, rfl, hp⟩ := hrel
    have HP : Hid (x = Sl.crc Sl.ones (s.data.toList.take j)) := hp
    clear hp
    by_cases hlt : j < s.size
    · have h8 : (s[j]'hlt).toNat < 256 := (s[j]'hlt).toNat_lt
      have HN : Hid (Sl.crc Sl.ones (s.data.toList.take (j + 1)) = Sl.zs 8 (x ^^^ (s[j]'hlt).toNat)) := by
        show _ = _
        rw [List.take_succ_eq_append_getElem (by rw [hl]; exact hlt), Sl.crc_snoc, ← HP.out]; rfl
      go_wp2
      go_loop [3, 5] (fun r i => ∃ k y : Nat, k ≤ 8 ∧ y < 18446744073709551616 ∧ i = .int .i64 k ∧ r = .int .u64 y ∧ y = Sl.zs k (x ^^^ ((s[j]'hlt).toNat % 2 ^ k))) (fun _ i => 8 - (intOf i).toNat)
      case atStart => exact ⟨0, x, by omega, hx, rfl, rfl, by simp [Sl.zs, Nat.mod_one]⟩
      case round =>
        obtain ⟨k, y, hk, hy, rfl, rfl, hq⟩ := hrel
        have HQ : Hid (y = Sl.zs k (x ^^^ ((s[j]'hlt).toNat % 2 ^ k))) := hq
        clear hq
        by_cases hlt2 : k < 8
        · have HB : Hid (Sl.zs (k + 1) (x ^^^ ((s[j]'hlt).toNat % 2 ^ (k + 1))) = (y / 2) ^^^ (if y % 2 ≠ (s[j]'hlt).toNat / 2 ^ k % 2 then Sl.poly else 0)) := by
            show _ = _
            rw [Sl.zs_bit, ← HQ.out, Sl.z_bit _ _ (by omega)]
          have hdv : (s[j]'hlt).toNat / 2 ^ k < 256 := Nat.lt_of_le_of_lt (Nat.div_le_self _ _) h8
          have hwr : (IntKind.u64.wrap (((s[j]'hlt).toNat : Int) / 2 ^ k)).tmod 2 = (((s[j]'hlt).toNat / 2 ^ k % 2 : Nat) : Int) := by
            have e : ((s[j]'hlt).toNat : Int) / 2 ^ k = (((s[j]'hlt).toNat / 2 ^ k : Nat) : Int) := by simp
            rw [e]
            generalize (s[j]'hlt).toNat / 2 ^ k = q at *
            rw [w64 _ (by omega) (by omega), Int.tmod_eq_emod_of_nonneg (by omega)]; omega
          have hp2 := bits_xor_u64_nat (y / 2) Sl.poly (by omega) (by decide)
          by_cases hd : y % 2 = (s[j]'hlt).toNat / 2 ^ k % 2
          · have hb : ((y : Int) % 2 != (IntKind.u64.wrap (((s[j]'hlt).toNat : Int) / 2 ^ k)).tmod 2) = false := by
              have e : (y : Int) % 2 = (((s[j]'hlt).toNat / 2 ^ k % 2 : Nat) : Int) := by rw [← hd]; omega
              rw [hwr, e]; exact bne_self_eq_false _
            have HE : Hid (Sl.zs (k + 1) (x ^^^ ((s[j]'hlt).toNat % 2 ^ (k + 1))) = y / 2) := by
              show _ = _
              rw [HB.out, if_neg (by simpa using hd)]; simp
            clear hwr hp2 hdv
            go_wp2
            go_round
            case rel => exact ⟨k + 1, y / 2, by omega, by omega, by go_num, by go_num, HE.out.symm⟩
            case measure => simp [intOf]; omega
          · have hb : ((y : Int) % 2 != (IntKind.u64.wrap (((s[j]'hlt).toNat : Int) / 2 ^ k)).tmod 2) = true := by
              rw [hwr, bne_iff_ne]
              intro h
              have e : ((y % 2 : Nat) : Int) = (((s[j]'hlt).toNat / 2 ^ k % 2 : Nat) : Int) := by rw [← h]; omega
              exact hd (Int.ofNat_inj.1 e)
            have HE : Hid (Sl.zs (k + 1) (x ^^^ ((s[j]'hlt).toNat % 2 ^ (k + 1))) = (y / 2) ^^^ Sl.poly) := by
              show _ = _
              rw [HB.out, if_pos hd]
            have HP2 : Hid (bits .xor .u64 ((y : Int) / 2) 14514072000185962306 = (((y / 2) ^^^ Sl.poly : Nat) : Int)) := by
              show _ = _
              have e : (y : Int) / 2 = ((y / 2 : Nat) : Int) := by omega
              rw [e]; exact hp2
            clear hwr hp2 hdv
            go_wp2
            go_round
            case rel => exact ⟨k + 1, (y / 2) ^^^ Sl.poly, by omega, Nat.xor_lt_two_pow (n := 64) (by omega) (by decide), by go_num, by rw [HP2.out], HE.out.symm⟩
            case measure => simp [intOf]; omega
        · have HR : Hid (Sl.crc Sl.ones (s.data.toList.take (j + 1)) = y) := by
            show _ = _
            have hk8 : k = 8 := by omega
            subst hk8
            rw [HN.out, HQ.out, Nat.mod_eq_of_lt (by simpa using h8)]
          go_wp2
          go_round
          case rel => exact ⟨j + 1, y, by omega, hy, by go_num, rfl, HR.out.symm⟩
          case measure => simp [intOf]; omega
    · have hjl : j = s.size := by omega
      have HR : Hid (Sl.sum s.data.toList = 18446744073709551615 - x) := by
        show _ = _
        rw [HP.out, hjl, ← hl, List.take_length]; rfl
      go_wp2
      go_ret
      rw [HR.out]
      exact ⟨by go_num, rfl⟩
end Go.Proofs.YtoeibjflaiiljaaDoor
