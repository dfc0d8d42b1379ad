/- cash: Times. -/
import Derived.Test.YtmidlcipbpchgabDoorCashP
import Derived.Laws.Bits64b
namespace Go.Proofs.YtmidlcipbpchgabDoor
open Go.RowKit

theorem and_up (a n : Int) : bits .and .u64 (Csh.up a) (Csh.lowE n) = if a < 0 then Csh.lowE n else 0 := by
  obtain ⟨k, hk⟩ : ∃ k : Nat, Csh.lowE n = k := ⟨(Csh.lowE n).toNat, by have := Csh.low_rng n; omega⟩
  have hl := Csh.low_rng n
  rw [hk] at hl ⊢
  unfold Csh.up
  split
  · have := bits_and_u64_nat 18446744073709551615 k (by omega) (by omega)
    rw [show ((18446744073709551615 : Int)) = ((18446744073709551615 : Nat) : Int) by rfl, this]
    congr 1
    rw [Nat.and_comm]
    exact Nat.and_two_pow_sub_one_of_lt_two_pow (n := 64) (by omega)
  · have := bits_and_u64_nat 0 k (by omega) (by omega)
    rw [show ((0 : Int)) = ((0 : Nat) : Int) by rfl, this]
    simp

set_option maxHeartbeats 1000000 in
set_option maxRecDepth 100000 in
theorem times_any (a n : Int) (w : World) (ha : -9223372036854775808 ≤ a) (ha1 : a ≤ 9223372036854775807) (hn : -9223372036854775808 ≤ n) (hn1 : n ≤ 9223372036854775807)
    (HMul : ∀ x y : Nat, x < 18446744073709551616 → y < 18446744073709551616 → Calls Tryd.prog 45 #[.int .u64 x, .int .u64 y] w fun e w' => e = .returned (.tuple #[.int .u64 ((x * y / 18446744073709551616 : Nat) : Int), .int .u64 ((x * y % 18446744073709551616 : Nat) : Int)]) ∧ w' = w) :
    Calls Tryd.prog 22 #[.int .i64 a, .int .i64 n] w fun e w' => e = .returned (.tuple #[.int .i64 (Csh.valE (a * n)), .int .i64 (Csh.errE (a * n))]) ∧ w' = w := by
  have hb := Csh.mul_bound a n ha ha1 hn hn1
  have HN : Hid (Calls Tryd.prog 44 #[.int .u64 (Csh.highE (a * n)), .int .u64 (Csh.lowE (a * n))] w fun e w' => e = .returned (.tuple #[.int .i64 (Csh.valE (a * n)), .int .i64 (Csh.errE (a * n))]) ∧ w' = w) := narrow_any (a * n) w (by omega) (by omega)
  have HUa : Hid (Calls Tryd.prog 43 #[.int .i64 a] w fun e w' => e = .returned (.int .u64 (Csh.up a)) ∧ w' = w) := upper_any a w ha ha1
  have HUn : Hid (Calls Tryd.prog 43 #[.int .i64 n] w fun e w' => e = .returned (.int .u64 (Csh.up n)) ∧ w' = w) := upper_any n w hn hn1
  have la := Csh.low_rng a
  have ln := Csh.low_rng n
  have HM : Hid (Calls Tryd.prog 45 #[.int .u64 (Csh.lowE a), .int .u64 (Csh.lowE n)] w fun e w' => e = .returned (.tuple #[.int .u64 (Csh.lowE a * Csh.lowE n / 18446744073709551616), .int .u64 (Csh.lowE (a * n))]) ∧ w' = w) := by
    have h := HMul (Csh.lowE a).toNat (Csh.lowE n).toNat (by omega) (by omega)
    rw [← Csh.times_low]
    have e1 : (((Csh.lowE a).toNat : Nat) : Int) = Csh.lowE a := by omega
    have e2 : (((Csh.lowE n).toNat : Nat) : Int) = Csh.lowE n := by omega
    rw [Int.natCast_ediv, Int.natCast_emod, Int.natCast_mul, e1, e2] at h
    exact h
  have wa : IntKind.u64.wrap a = Csh.lowE a := by rw [IntKind.wrap_u64]; rfl
  have wn : IntKind.u64.wrap n = Csh.lowE n := by rw [IntKind.wrap_u64]; rfl
  have b1 := and_up a n
  have b2 := and_up n a
  have hh := Csh.times_high a n ha ha1 hn hn1
  have w1 : IntKind.u64.wrap (bits .and .u64 (Csh.up a) (Csh.lowE n) + bits .and .u64 (Csh.up n) (Csh.lowE a)) = (bits .and .u64 (Csh.up a) (Csh.lowE n) + bits .and .u64 (Csh.up n) (Csh.lowE a)) % 18446744073709551616 := IntKind.wrap_u64 _
  have w2 : IntKind.u64.wrap (Csh.lowE a * Csh.lowE n / 18446744073709551616 - (bits .and .u64 (Csh.up a) (Csh.lowE n) + bits .and .u64 (Csh.up n) (Csh.lowE a)) % 18446744073709551616) = Csh.highE (a * n) := by
    rw [IntKind.wrap_u64, b1, b2, ← hh]; omega
  clear hh hb HMul
  rw [b1, b2] at w1 w2
  generalize (if a < 0 then Csh.lowE n else 0) = q1 at *
  generalize (if n < 0 then Csh.lowE a else 0) = q2 at *
  generalize (q1 + q2) % 18446744073709551616 = q3 at *
  generalize Csh.lowE a * Csh.lowE n / 18446744073709551616 = h0 at *
  generalize a * n = p at *
  generalize Csh.lowE a = xa at *
  generalize Csh.lowE n = xn at *
  generalize Csh.up a = ua at *
  generalize Csh.up n = un at *
  generalize Csh.highE p = ph at *
  generalize Csh.lowE p = pl at *
  go_enter Tryd.func22, Tryd.ntmps22
  go_wp2_with fail
  refine HM.out.mono ?_
  rintro e w1 ⟨rfl, hww⟩; obtain rfl := hww.symm
  go_wp2_with fail
  refine HUa.out.mono ?_
  rintro e w1 ⟨rfl, hww⟩; obtain rfl := hww.symm
  go_wp2_with fail
  refine HUn.out.mono ?_
  rintro e w1 ⟨rfl, hww⟩; obtain rfl := hww.symm
  go_wp2_with fail
  refine HN.out.mono ?_
  rintro e w1 ⟨rfl, hww⟩; obtain rfl := hww.symm
  go_wp2
  go_ret2
  exact ⟨rfl, rfl⟩
end Go.Proofs.YtmidlcipbpchgabDoor
