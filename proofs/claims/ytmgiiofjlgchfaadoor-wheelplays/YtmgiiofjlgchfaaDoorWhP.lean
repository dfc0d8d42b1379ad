
/- wheel: isNone, digit, Now, At. -/
import Derived.Test.YtmgiiofjlgchfaaDoorWhA
namespace Go.Proofs.YtmgiiofjlgchfaaDoor
open Go.RowKit Go.Maps
open Wh (Tm Sl ks hasK atK del ins put dig)

theorem map_some (m : Nat) (w : World) : Sem.run Tryd.prog (binOp .eql 51 (.map (some m)) (.map none)) w = .ok (.bool false) w := by kernel_rfl
theorem map_none (w : World) : Sem.run Tryd.prog (binOp .eql 51 (.map none) (.map none)) w = .ok (.bool true) w := by kernel_rfl
abbrev ptr (b : Nat) : Value := .pointer (some ⟨b, 0, none⟩)
set_option maxHeartbeats 1000000 in
set_option maxRecDepth 100000 in
theorem isNone_any {b m t : Nat} {L : List Tm} {S : Sl} {V : Vl} {w : World} (h : WAt w b m t L S V) :
    Calls Tryd.prog 26 #[ptr b] w fun e w' => e = .returned (.bool false) ∧ w' = w := by
  have h1 := h.mp
  have h2 := map_some m w
  clear h
  go_enter Tryd.func26, Tryd.ntmps26
  go_wp2
  go_ret
  exact ⟨rfl, rfl⟩
theorem shr_any (a g : Nat) : (a : Int) / 2 ^ (5 * g) = ((a / 32 ^ g : Nat) : Int) := by rw [Wh.p32]; simp
theorem rem_any (a g : Nat) : ((a : Int) / 2 ^ (5 * g)).tmod 32 = (dig a g : Int) := by
  rw [shr_any, Int.tmod_eq_emod_of_nonneg (Int.natCast_nonneg _)]; unfold dig; omega
set_option maxHeartbeats 1000000 in
set_option maxRecDepth 100000 in
theorem digit_any {a g : Nat} (hg : g < 6) (w : World) :
    Calls Tryd.prog 36 #[.int .i64 (a : Int), .int .i64 (g : Int)] w fun e w' => e = .returned (.int .i64 (dig a g : Int)) ∧ w' = w := by
  go_enter Tryd.func36, Tryd.ntmps36
  go_wp2
  go_ret
  exact ⟨by rw [← rem_any]; rfl, rfl⟩
set_option maxHeartbeats 1000000 in
set_option maxRecDepth 100000 in
theorem now_any {b m t : Nat} {L : List Tm} {S : Sl} {V : Vl} {w : World} (h : WAt w b m t L S V) :
    Calls Tryd.prog 23 #[ptr b] w fun e w' => e = .returned (.int .i64 (t : Int)) ∧ w' = w := by
  have hN := isNone_any h
  have h1 := h.now
  clear h
  go_enter Tryd.func23, Tryd.ntmps23
  go_wp2_with (go_at_call 26; refine hN.mono ?_; rintro e w' ⟨rfl, rfl⟩)
  go_ret
  exact ⟨rfl, rfl⟩
set_option maxHeartbeats 1000000 in
set_option maxRecDepth 100000 in
theorem at_any {b m t : Nat} {L : List Tm} {S : Sl} {V : Vl} {w : World} (h : WAt w b m t L S V) (hn : (ks L).Nodup) (k : ByteArray) (hk : k.size ≤ 9223372036854775807) :
    Calls Tryd.prog 21 #[ptr b, .string k] w fun e w' => e = .returned (.tuple #[.int .i64 (atK L k : Int), .bool (hasK L k)]) ∧ w' = w := by
  have hN := isNone_any h
  have h1 := h.mp
  have h2 := (h.due.look hn Tryd.underlying51 k hk).1
  clear h
  go_enter Tryd.func21, Tryd.ntmps21
  go_wp2_with (go_at_call 26; refine hN.mono ?_; rintro e w' ⟨rfl, rfl⟩)
  go_ret2
  exact ⟨rfl, rfl⟩
end Go.Proofs.YtmgiiofjlgchfaaDoor
