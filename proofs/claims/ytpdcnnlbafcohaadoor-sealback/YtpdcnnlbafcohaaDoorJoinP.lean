/- joined answers the texts, one behind the other. -/
import Derived.Test.YtpdcnnlbafcohaaDoorSumP
import Derived.Test.YtpdcnnlbafcohaaDoorMath5
namespace Go.Proofs.YtpdcnnlbafcohaaDoor
open Go.RowKit

theorem flat_le (L : List ByteArray) : (flat L).length ≤ (Pk.body L).length := by
  induction L with
  | nil => simp [flat]
  | cons s l ih =>
    have e1 : flat (s :: l) = s.data.toList ++ flat l := by simp [flat]
    have e2 : Pk.body (s :: l) = Pk.text s.data.toList ++ Pk.body l := by simp [Pk.body]
    rw [e1, e2, List.length_append, List.length_append]
    have : (Pk.text s.data.toList).length = (Pk.num s.data.toList.length).length + s.data.toList.length := by unfold Pk.text; exact List.length_append
    omega
theorem flat_small (L : List ByteArray) (h : Pk.small L = true) : (flat L).length ≤ 50010 := by
  have h1 := (Pk.small_sum L h).1
  have h2 : (Pk.texts L).length = (Pk.num L.length).length + (Pk.body L).length := by unfold Pk.texts; exact List.length_append
  have := flat_le L
  omega
theorem flat_take_le (L : List ByteArray) (k : Nat) : (flat (L.take k)).length ≤ (flat L).length := by
  have e : flat L = flat (L.take k) ++ flat (L.drop k) := by
    have := congrArg flat (List.take_append_drop k L)
    exact this.symm.trans (by unfold flat; rw [List.flatMap_append])
  rw [e, List.length_append]; omega

set_option maxHeartbeats 400000 in
set_option maxRecDepth 100000 in
theorem joined_any (L : List ByteArray) (ad : Option Addr) (cap : Nat) (w : World) (hL : StrsAt w ad L) (hn : L.length ≤ 9223372036854775807) (hlen : (flat L).length ≤ 1000000) :
    Calls Tryd.prog 11 #[.slice ad L.length cap] w fun e w' => e = .returned (.string ⟨(flat L).toArray⟩) ∧ w' = w := by
  have HL : Hid (StrsAt w ad L) := hL
  clear hL
  go_enter Tryd.func11, Tryd.ntmps11
  go_wp2
  go_loop [3, 4] (fun o i => ∃ k : Nat, k ≤ L.length ∧ i = .int .i64 k ∧ o = .string ⟨(flat (L.take k)).toArray⟩) (fun _ i => L.length - (intOf i).toNat)
  case atStart => exact ⟨0, by omega, rfl, rfl⟩
  case round =>
    obtain ⟨k, hk, rfl, rfl⟩ := hrel
    by_cases hlt : k < L.length
    · obtain ⟨b, off, rfl, hbl, hc⟩ := HL.out k hlt
      have hm := flat_more L k hlt
      have hle := flat_take_le L (k + 1)
      have ha := add_lists (flat (L.take k)) L[k].data.toList (by rw [hm, List.length_append] at hle; omega)
      rw [mk_data, ← hm] at ha
      have HM : Hid (flat (L.take (k + 1)) = flat (L.take k) ++ L[k].data.toList) := hm
      clear hm hle
      go_wp2
      go_round
      case rel => exact ⟨k + 1, by omega, by go_num, rfl⟩
      case measure => simp [intOf]; omega
    · have HE : Hid (flat (L.take k) = flat L) := by
        show _ = _
        rw [List.take_of_length_le (by omega)]
      go_wp2
      go_ret
      exact ⟨by rw [← HE.out]; rfl, rfl⟩
end Go.Proofs.YtpdcnnlbafcohaaDoor
