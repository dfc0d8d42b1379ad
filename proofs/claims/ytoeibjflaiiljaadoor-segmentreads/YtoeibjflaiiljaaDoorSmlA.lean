
/- Small answers Pk.small. -/
import Derived.Test.YtoeibjflaiiljaaDoorStrs
import Derived.Test.YtoeibjflaiiljaaDoorShelf
import Derived.Test.YtoeibjflaiiljaaDoorMath5
namespace Go.Proofs.YtoeibjflaiiljaaDoor
open Go.RowKit

set_option maxHeartbeats 400000 in
set_option maxRecDepth 100000 in
theorem small_any (L : List ByteArray) (ad : Option Addr) (cap : Nat) (w : World) (hL : StrsAt w ad L) (hn : L.length ≤ 9223372036854775807) (hsz : ∀ s ∈ L, s.size ≤ 9223372036854775807) :
    Calls Tryd.prog 7 #[.slice ad L.length cap] w fun e w' => e = .returned (.bool (Pk.small L)) ∧ w' = w := by
  have HL : Hid (StrsAt w ad L) := hL
  have HZ : Hid (∀ s ∈ L, s.size ≤ 9223372036854775807) := hsz
  clear hL hsz
  go_enter Tryd.func7, Tryd.ntmps7
  go_wp2
  go_loop [3, 4] (fun n i => ∃ k m : Nat, k ≤ L.length ∧ m ≤ 50000 ∧ i = .int .i64 k ∧ n = .int .i64 m ∧ Pk.small L = Pk.smallF m (L.drop k)) (fun _ i => L.length - (intOf i).toNat)
  case atStart => exact ⟨0, 0, by omega, by omega, rfl, rfl, rfl⟩
  case round =>
    obtain ⟨k, m, hk, hm, rfl, rfl, hq⟩ := hrel
    have HQ : Hid (Pk.small L = Pk.smallF m (L.drop k)) := hq
    clear hq
    by_cases hlt : k < L.length
    · obtain ⟨b, off, rfl, hbl, hc⟩ := HL.out k hlt
      have hz := HZ.out L[k] (List.getElem_mem hlt)
      have e := List.drop_eq_getElem_cons hlt
      have HQ2 : Hid (Pk.small L = if 50000 < m + (min (L[k]).size 100000 + 10) then false else Pk.smallF (m + (min (L[k]).size 100000 + 10)) (L.drop (k + 1))) := by
        show _ = _
        rw [HQ.out, e, Pk.smallF]
      clear e
      by_cases hbig : 50000 < m + (min (L[k]).size 100000 + 10)
      · have HR : Hid (Pk.small L = false) := by show _ = _; rw [HQ2.out, if_pos hbig]
        have hbi : (50000 : Int) < (m : Int) + (min ((L[k]).size : Int) 100000 + 10) := by omega
        go_wp2
        go_ret
        exact ⟨by rw [HR.out]; rfl, rfl⟩
      · have HR : Hid (Pk.small L = Pk.smallF (m + (min (L[k]).size 100000 + 10)) (L.drop (k + 1))) := by show _ = _; rw [HQ2.out, if_neg hbig]
        have hbi : ¬ (50000 : Int) < (m : Int) + (min ((L[k]).size : Int) 100000 + 10) := by omega
        go_wp2
        go_round
        case rel => exact ⟨k + 1, m + (min (L[k]).size 100000 + 10), by omega, by omega, by go_num, by go_num, HR.out⟩
        case measure => simp [intOf]; omega
    · have HR : Hid (Pk.small L = true) := by
        show _ = _
        rw [HQ.out, List.drop_eq_nil_of_le (by omega)]; rfl
      go_wp2
      go_ret
      exact ⟨by rw [HR.out]; rfl, rfl⟩

end Go.Proofs.YtoeibjflaiiljaaDoor
