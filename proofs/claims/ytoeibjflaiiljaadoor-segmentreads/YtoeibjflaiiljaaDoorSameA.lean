
/- Same says that two like rows of strings are the same. -/
import Derived.Test.YtoeibjflaiiljaaDoorStrs
import Derived.Test.YtoeibjflaiiljaaDoorShelf
import Derived.Lib.Strings
import Derived.Deep.QuietTactic
import Derived.BigQuiet
import Derived.Deep.RegionHeld3
namespace Go.Proofs.YtoeibjflaiiljaaDoor
open Go.RowKit

set_option maxHeartbeats 1000000 in
set_option maxRecDepth 100000 in
theorem same_any (L : List ByteArray) (a1 a2 : Option Addr) (c1 c2 : Nat) (w : World) (hn : L.length ≤ 9223372036854775807) (h1 : StrsAt w a1 L) (h2 : StrsAt w a2 L) :
    Calls Tryd.prog 32 #[.slice a1 L.length c1, .slice a2 L.length c2] w fun e w' => e = .returned (.bool true) ∧ Gr w w' := by
  have H1 : Hid (StrsAt w a1 L) := h1
  have H2 : Hid (StrsAt w a2 L) := h2
  clear h1 h2
  go_enter Tryd.func32, Tryd.ntmps32
  go_wp2
  go_loopw [5] (fun i wr => ∃ k : Nat, k ≤ L.length ∧ i = .int .i64 k ∧ Gr w wr) (fun i _ => L.length - (intOf i).toNat)
  case atStart => exact ⟨0, by omega, rfl, Gr.refl _⟩
  case round =>
    obtain ⟨k, hk, rfl, hg⟩ := hrel
    by_cases hlt : k < L.length
    · obtain ⟨b, off, rfl, hbl, hc⟩ := H1.out k hlt
      obtain ⟨b2, off2, rfl, hbl2, hc2⟩ := H2.out k hlt
      have hc' : wr.cell? ⟨b, off + k, none⟩ = some (.string L[k]) := hg.keep hc
      have hc2' : wr.cell? ⟨b2, off2 + k, none⟩ = some (.string L[k]) := hg.keep hc2
      have hb1 : (0 : Int) ≤ (k : Int) := by omega
      have hb2 : (k : Int) < (L.length : Int) := by omega
      clear hc hc2
      go_wp2_with fail
      go_quiet (fail)
      go_wp2
      go_roundw
      case rel => exact ⟨k + 1, by omega, by go_num, hg.trans ⟨below_drewN (Below.refl _ _) _⟩⟩
      case measure => simp [intOf]; omega
    · go_wp2
      go_ret
      exact ⟨rfl, hg⟩
end Go.Proofs.YtoeibjflaiiljaaDoor
