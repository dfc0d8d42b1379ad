
/- seal.Sum reckons Sl.sum. -/
import Derived.Test.YtoeibjflaiiljaaDoorSumM
import Derived.Test.YtoeibjflaiiljaaDoorStrs
import Derived.Test.YtoeibjflaiiljaaDoorShelf
import Derived.Laws.Bits64
namespace Go.Proofs.YtoeibjflaiiljaaDoor
open Go.RowKit

/- the table of seal, where the program has laid it -/
def Tab (w : World) : Prop := ∀ j, j < 16 → w.cell? ⟨0, j, none⟩ = some (.int .u64 ((Sl.zs 4 j : Nat) : Int))
theorem Tab.gr {w w' : World} (h : Tab w) (g : Gr w w') : Tab w' := fun j hj => g.keep (h j hj)

theorem step4 (y : Nat) (hy : y < 18446744073709551616) : bits .xor .u64 ((y : Int) / 16) ((Sl.zs 4 (y % 16) : Nat) : Int) = ((Sl.zs 4 y : Nat) : Int) := by
  have e : (y : Int) / 16 = ((y / 16 : Nat) : Int) := by omega
  rw [e, bits_xor_u64_nat _ _ (by omega) (Sl.zs_lt 4 _ (by omega)), Sl.four y]
theorem step1 (x c : Nat) (hx : x < 18446744073709551616) (hc : c < 256) : bits .xor .u64 (x : Int) (c : Int) = ((x ^^^ c : Nat) : Int) :=
  bits_xor_u64_nat _ _ hx (by omega)

theorem compl (x : Nat) (hx : x < 18446744073709551616) : bits .xor .u64 IntKind.u64.max (x : Int) = ((18446744073709551615 - x : Nat) : Int) := by
  have e : IntKind.u64.max = ((18446744073709551615 : Nat) : Int) := by decide
  rw [e, bits_xor_u64_nat _ _ (by omega) hx]
  exact congrArg _ (Sl.round_about x hx)

def flat (L : List ByteArray) : List UInt8 := L.flatMap fun s => s.data.toList
theorem flat_more (L : List ByteArray) (k : Nat) (h : k < L.length) : flat (L.take (k + 1)) = flat (L.take k) ++ L[k].data.toList := by
  unfold flat; rw [List.take_succ_eq_append_getElem h, List.flatMap_append]; simp

set_option maxHeartbeats 1000000 in
set_option maxRecDepth 100000 in
theorem sum_any (L : List ByteArray) (ad : Option Addr) (cap : Nat) (w : World) (hT : Tab w) (hL : StrsAt w ad L) (hn : L.length ≤ 9223372036854775807) (hsz : ∀ s ∈ L, s.size ≤ 9223372036854775807) :
    Calls Tryd.prog 36 #[.slice ad L.length cap] w fun e w' => e = .returned (.int .u64 (Sl.sum (flat L) : Nat)) ∧ w' = w := by
  have HL : Hid (StrsAt w ad L) := hL
  have HZ : Hid (∀ s ∈ L, s.size ≤ 9223372036854775807) := hsz
  have HT : Hid (Tab w) := hT
  clear hL hsz hT
  go_enter Tryd.func36, Tryd.ntmps36
  go_wp2
  go_loop [3, 9] (fun r i => ∃ k x : Nat, k ≤ L.length ∧ x < 18446744073709551616 ∧ i = .int .i64 k ∧ r = .int .u64 x ∧ x = Sl.crc Sl.ones (flat (L.take k))) (fun _ i => L.length - (intOf i).toNat)
  case atStart => exact ⟨0, 18446744073709551615, by omega, by omega, rfl, rfl, rfl⟩
  case round =>
    obtain ⟨k, x, hk, hx, rfl, rfl, hq⟩ := hrel
    have HQ : Hid (x = Sl.crc Sl.ones (flat (L.take k))) := hq
    clear hq
    by_cases hlt : k < L.length
    · obtain ⟨b, off, rfl, hbl, hc⟩ := HL.out k hlt
      have hz := HZ.out L[k] (List.getElem_mem hlt)
      have HF : Hid (Sl.crc Sl.ones (flat (L.take (k + 1))) = Sl.crc x L[k].data.toList) := by show _ = _; rw [flat_more L k hlt, Sl.crc_append, ← HQ.out]
      have hl : L[k].data.toList.length = L[k].size := by simp
      generalize L[k] = s at *
      go_wp2
      go_loop [3, 15] (fun r i => ∃ j y : Nat, j ≤ s.size ∧ y < 18446744073709551616 ∧ i = .int .i64 j ∧ r = .int .u64 y ∧ y = Sl.crc x (s.data.toList.take j)) (fun _ i => s.size - (intOf i).toNat)
      case atStart => exact ⟨0, x, by omega, hx, rfl, rfl, rfl⟩
      case round =>
        obtain ⟨j, y, hj, hy, rfl, rfl, hp⟩ := hrel
        have HP : Hid (y = Sl.crc x (s.data.toList.take j)) := hp
        clear hp
        by_cases hlt2 : j < s.size
        · have h8 : (s[j]'hlt2).toNat < 256 := (s[j]'hlt2).toNat_lt
          have HN : Hid (Sl.crc x (s.data.toList.take (j + 1)) = Sl.zs 8 (y ^^^ (s[j]'hlt2).toNat)) := by
            show _ = _
            rw [List.take_succ_eq_append_getElem (by rw [hl]; exact hlt2), Sl.crc_snoc, ← HP.out]; rfl
          have hx1 := step1 y _ hy h8
          have hy1 : y ^^^ (s[j]'hlt2).toNat < 18446744073709551616 := Nat.xor_lt_two_pow (n := 64) hy (by omega)
          have hx2 := step4 _ hy1
          have hc1 := HT.out ((y ^^^ (s[j]'hlt2).toNat) % 16) (by omega)
          have hy2 := Sl.zs_lt 4 _ hy1
          have hx3 := step4 _ hy2
          have hc2 := HT.out (Sl.zs 4 (y ^^^ (s[j]'hlt2).toNat) % 16) (by omega)
          have hy3 := Sl.zs_lt 4 _ hy2
          rw [Sl.eight_four] at HN
          go_wp2
          go_round
          case rel => exact ⟨j + 1, _, by omega, hy3, by go_num, rfl, HN.out.symm⟩
          case measure => simp [intOf]; omega
        · have hjs : j = s.size := by omega
          have HR : Hid (Sl.crc Sl.ones (flat (L.take (k + 1))) = y) := by
            show _ = _
            rw [HF.out, HP.out, hjs, ← hl, List.take_length]
          go_wp2
          go_round
          case rel => exact ⟨k + 1, y, by omega, hy, by go_num, rfl, HR.out.symm⟩
          case measure => simp [intOf]; omega
    · have hkl : k = L.length := by omega
      have HR : Hid (Sl.sum (flat L) = 18446744073709551615 - x) := by
        show _ = _
        rw [HQ.out, hkl, List.take_length]; rfl
      have hcm := compl x hx
      go_wp2
      go_ret
      rw [HR.out]
      exact ⟨rfl, rfl⟩
end Go.Proofs.YtoeibjflaiiljaaDoor
