
/- wheel: slot, New. -/
import Derived.Test.YtmgiiofjlgchfaaDoorWhP
import Derived.Test.YtmgiiofjlgchfaaDoorShelf
import Derived.Deep.QuietTactic
import Derived.BigQuiet
namespace Go.Proofs.YtmgiiofjlgchfaaDoor
open Go.RowKit Go.Maps
open Wh (Tm Sl ks hasK atK del ins put dig whl)

theorem Gr.drewN {a b : World} (h : Gr a b) : ∀ n, Gr a (b.drewN n)
  | 0 => h
  | n + 1 => by
    have := Gr.drewN h n
    exact ⟨this.below.drew⟩
theorem xor_i64 (a b : Nat) (ha : a < 2 ^ 30) (hb : b < 2 ^ 30) : bits .xor .i64 (a : Int) (b : Int) = ((a ^^^ b : Nat) : Int) := by
  have hx : a ^^^ b < 2 ^ 30 := Nat.xor_lt_two_pow ha hb
  have h1 : (BitVec.ofInt 64 (a : Int)).toNat = a := by
    rw [BitVec.ofInt_natCast, BitVec.toNat_ofNat]; exact Nat.mod_eq_of_lt (by omega)
  have h2 : (BitVec.ofInt 64 (b : Int)).toNat = b := by
    rw [BitVec.ofInt_natCast, BitVec.toNat_ofNat]; exact Nat.mod_eq_of_lt (by omega)
  show IntKind.i64.wrap ((BitVec.ofInt 64 (a : Int) ^^^ BitVec.ofInt 64 (b : Int)).toNat : Int) = _
  rw [BitVec.toNat_xor, h1, h2, IntKind.wrap_i64]
  omega
set_option maxHeartbeats 2000000 in
set_option maxRecDepth 100000 in
theorem slot_any {b m t a : Nat} {L : List Tm} {S : Sl} {V : Vl} {w : World} (h : WAt w b m t L S V) (ht : t < 2 ^ 30) (ha : a < 2 ^ 30) (hne : a ≠ t) :
    Calls Tryd.prog 28 #[ptr b, .int .i64 (a : Int)] w fun e w' => e = .returned (.pointer (some ⟨b, 2 + whl t a * 32 + dig a (whl t a), none⟩)) ∧ ∃ n, w' = w.drewN n := by
  have h0 := h.now
  have hx := xor_i64 a t ha ht
  have hl := Tryd.bits_Len ((a ^^^ t : Nat) : Int) w (by omega) (by have := Nat.xor_lt_two_pow ha ht; omega)
  have hwr := w64 ((a ^^^ t : Nat) : Int) (by omega) (by have := Nat.xor_lt_two_pow ha ht; omega)
  rw [Int.toNat_natCast] at hl
  obtain ⟨hi, h6⟩ := Wh.whl_in hne ha ht
  obtain ⟨n, HN⟩ : ∃ n, Hid (n = Lib.bitLen (a ^^^ t)) := ⟨_, rfl⟩
  obtain ⟨g, HG⟩ : ∃ g, Hid (g = whl t a) := ⟨_, rfl⟩
  have hn1 : 1 ≤ n := by
    rw [HN.out]
    exact (Lib.bitLenAux_bounds 64 (a ^^^ t) (Nat.lt_trans (Nat.xor_lt_two_pow ha ht) (by decide)) (Wh.xor_ne hne)).1
  have hn2 : n ≤ 30 := by rw [HN.out]; exact Lib.bitLen_le _ 30 (by omega) (Nat.xor_lt_two_pow ha ht)
  have hg : ((n : Int) - 1) / 5 = (g : Int) := by rw [HG.out]; unfold whl; rw [← HN.out]; omega
  rw [← HN.out] at hl
  rw [← HG.out] at h6 ⊢
  have HD := digit_any (a := a) h6
  have hd := Wh.dig_lt a g
  generalize (a ^^^ t) = x at hx hl hwr
  generalize dig a g = d at HD hd
  clear h hi HN HG
  go_enter Tryd.func28, Tryd.ntmps28
  go_wp2_with (go_at_call 35; refine hl.mono ?_; rintro e w' ⟨rfl, rfl⟩)
  go_quiet ((go_at_call 36; exact Calls.quiet_of_same (HD _)))
  go_wp2
  go_ret
  exact ⟨rfl, nq, rfl⟩
end Go.Proofs.YtmgiiofjlgchfaaDoor
