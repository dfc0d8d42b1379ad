/- Plain laws: bits that are turned within 64 of each other change the sum. -/
import Derived.Test.YtpdcnnlbafcohaaDoorBackM
namespace Sl

/- bytes as one number, the first byte lowest -/
def num : List UInt8 → Nat
  | [] => 0
  | b :: l => 2 ^ 8 * num l + b.toNat
theorem num_cons (b : UInt8) (l : List UInt8) : num (b :: l) = (2 ^ 8 * num l) ^^^ b.toNat := by
  rw [num, high_low 8 _ _ (by have := b.toNat_lt; simpa using this)]
theorem crc_num (l : List UInt8) : ∀ r, crc r l = zs (8 * l.length) (r ^^^ num l) := by
  induction l with
  | nil => intro r; simp [crc, num, zs]
  | cons b l ih =>
    intro r
    have e1 : crc r (b :: l) = crc (zs 8 (r ^^^ b.toNat)) l := by simp [crc]
    have e2 : 8 * (b :: l).length = 8 + 8 * l.length := by simp; omega
    have e3 : r ^^^ ((2 ^ 8 * num l) ^^^ b.toNat) = (r ^^^ b.toNat) ^^^ (2 ^ 8 * num l) := by ac_rfl
    rw [e1, ih, e2, zs_add, num_cons, e3, zs_xor 8 (r ^^^ b.toNat) (2 ^ 8 * num l), zs_pow]
theorem z_ne (x : Nat) (hx : x < 18446744073709551616) (h0 : x ≠ 0) : z x ≠ 0 := by
  intro h
  unfold z at h
  have h1 : x / 2 = if x % 2 = 1 then poly else 0 := by
    have := congrArg (fun y => y ^^^ (if x % 2 = 1 then poly else 0)) h
    simpa [Nat.xor_assoc] using this
  split at h1
  · have : poly = 14514072000185962306 := rfl
    omega
  · omega
theorem zs_ne (n : Nat) : ∀ x, x < 18446744073709551616 → x ≠ 0 → zs n x ≠ 0 := by
  induction n with
  | zero => intro x _ h; exact h
  | succ n ih => intro x hx h0; exact ih (z x) (z_lt x hx) (z_ne x hx h0)
/- a burst changes the register -/
theorem burst (r at' x : Nat) (B B' : List UInt8) (hl : B'.length = B.length) (hat : at' ≤ 8 * B.length) (hx : x < 18446744073709551616) (h0 : x ≠ 0) (hn : num B' = num B ^^^ (2 ^ at' * x)) : crc r B' ≠ crc r B := by
  intro h
  rw [crc_num, crc_num, hl, hn] at h
  have e : r ^^^ (num B ^^^ (2 ^ at' * x)) = (r ^^^ num B) ^^^ (2 ^ at' * x) := by ac_rfl
  rw [e, zs_xor] at h
  have h1 : zs (8 * B.length) (2 ^ at' * x) = 0 := by
    have h2 : ∀ a b : Nat, a ^^^ b = a → b = 0 := by
      intro a b h
      have := congrArg (fun y => a ^^^ y) h
      simpa [← Nat.xor_assoc] using this
    exact h2 _ _ h
  have e2 : 8 * B.length = at' + (8 * B.length - at') := by omega
  rw [e2, zs_add, zs_pow] at h1
  exact zs_ne _ x hx h0 h1
theorem sum_burst (A B B' : List UInt8) (at' x : Nat) (hl : B'.length = B.length) (hat : at' ≤ 8 * B.length) (hx : x < 18446744073709551616) (h0 : x ≠ 0) (hn : num B' = num B ^^^ (2 ^ at' * x)) : sum (A ++ B') ≠ sum (A ++ B) := by
  intro h
  have h1 : ones < 18446744073709551616 := by decide
  have k1 := crc_lt (A ++ B') ones h1
  have k2 := crc_lt (A ++ B) ones h1
  have h2 : crc ones (A ++ B') = crc ones (A ++ B) := by
    unfold sum at h
    have : ones = 18446744073709551615 := rfl
    omega
  rw [crc_append, crc_append] at h2
  exact burst _ at' x B B' hl hat hx h0 hn h2

theorem pow_xor (i x y : Nat) : 2 ^ i * (x ^^^ y) = (2 ^ i * x) ^^^ (2 ^ i * y) := by
  apply Nat.eq_of_testBit_eq
  intro j
  rw [Nat.testBit_xor, Nat.testBit_two_pow_mul, Nat.testBit_two_pow_mul, Nat.testBit_two_pow_mul, Nat.testBit_xor]
  by_cases h : i ≤ j <;> simp [h]
/- one bit turned -/
theorem num_flip (l : List UInt8) : ∀ (j r : Nat) (h : j < l.length), r < 8 → num (l.set j (UInt8.ofNat (l[j].toNat ^^^ 2 ^ r))) = num l ^^^ 2 ^ (8 * j + r) := by
  induction l with
  | nil => intro j r h; simp at h
  | cons b l ih =>
    intro j r h hr
    have hb := b.toNat_lt
    have h2r : 2 ^ r < 256 := by
      have := Nat.pow_lt_pow_right (a := 2) (by omega) hr
      simpa using this
    cases j with
    | zero =>
      have hx : b.toNat ^^^ 2 ^ r < 2 ^ 8 := Nat.xor_lt_two_pow (n := 8) (by simpa using hb) (by simpa using h2r)
      simp only [List.set_cons_zero, List.getElem_cons_zero]
      rw [num_cons, num_cons]
      have e : (UInt8.ofNat (b.toNat ^^^ 2 ^ r)).toNat = b.toNat ^^^ 2 ^ r := by
        rw [UInt8.toNat_ofNat']; exact Nat.mod_eq_of_lt hx
      rw [e, Nat.mul_zero, Nat.zero_add, Nat.xor_assoc]
    | succ j =>
      simp only [List.set_cons_succ, List.getElem_cons_succ]
      rw [num_cons, num_cons, ih j r (by simpa using h) hr, pow_xor]
      have e : 2 ^ 8 * 2 ^ (8 * j + r) = 2 ^ (8 * (j + 1) + r) := by rw [← Nat.pow_add]; congr 1; omega
      rw [e]
      ac_rfl
/- how much of the pattern has been laid when i bits are gone through -/
def part (y M i : Nat) : Nat := y % 2 ^ (min i M)
theorem part_zero (y M : Nat) : part y M 0 = 0 := by simp [part, Nat.mod_one]
theorem part_skip (y M i : Nat) (h : y / 2 ^ i % 2 = 0 ∨ M ≤ i) : part y M (i + 1) = part y M i := by
  unfold part
  rcases h with h | h
  · by_cases hM : M ≤ i
    · rw [Nat.min_eq_right (by omega), Nat.min_eq_right hM]
    · rw [Nat.min_eq_left (by omega), Nat.min_eq_left (by omega), low_more, h]; simp
  · rw [Nat.min_eq_right (by omega), Nat.min_eq_right h]
theorem part_turn (y M i : Nat) (h : y / 2 ^ i % 2 = 1) (hM : i < M) : part y M (i + 1) = part y M i ^^^ 2 ^ i ∧ part y M (i + 1) ≠ 0 := by
  unfold part
  rw [Nat.min_eq_left (by omega), Nat.min_eq_left (by omega)]
  have e := low_more y i
  rw [h, Nat.mul_one] at e
  refine ⟨by rw [e]; ac_rfl, ?_⟩
  have hl := high_low i 1 (y % 2 ^ i) (Nat.mod_lt _ (Nat.two_pow_pos i))
  rw [Nat.mul_one] at hl
  rw [e, hl]
  have := Nat.two_pow_pos i
  omega
theorem part_lt (y M i : Nat) (h : i ≤ 64) : part y M i < 18446744073709551616 := by
  unfold part
  have h1 : y % 2 ^ (min i M) < 2 ^ (min i M) := Nat.mod_lt _ (Nat.two_pow_pos _)
  have h2 : 2 ^ (min i M) ≤ 2 ^ 64 := Nat.pow_le_pow_right (by omega) (by omega)
  have h3 : (2 : Nat) ^ 64 = 18446744073709551616 := by decide
  omega

/- opening a frame whose body was changed -/
theorem open_other (v : Nat) (b b' : List UInt8) (hv : v ≤ 255) (hb : b.length ≤ 30000) (hl : b'.length = b.length) :
    openE ([231, UInt8.ofNat v] ++ Pk.num b.length ++ b' ++ eight (sum (front v b))) 0 v =
      if sum (front v b') = sum (front v b) then (b', (frame v b).length, 0) else ([], 0, 22) := by
  by_cases he : sum (front v b') = sum (front v b)
  · rw [if_pos he]
    have hS : [231, UInt8.ofNat v] ++ Pk.num b.length ++ b' ++ eight (sum (front v b)) = [] ++ (frame v b' ++ []) := by
      rw [← he]; simp [frame, front, Pk.text, hl]
    have := open_whole [] [] b' v hv (by omega)
    rw [← hS] at this
    rw [frame_len, hl] at this
    rw [frame_len]
    simpa using this
  · rw [if_neg he]
    have hfl := front_len v b'
    have hfr : [231, UInt8.ofNat v] ++ Pk.num b.length ++ b' = front v b' := by simp [front, Pk.text, hl]
    have hll : (front v b' ++ eight (sum (front v b))).length = 2 + (Pk.num b.length).length + b.length + 8 := by
      rw [List.length_append, hfl, eight_len, hl]
    rw [hfr]
    have e8 : (UInt8.ofNat v).toNat = v := by simp; omega
    have hh : headE (front v b' ++ eight (sum (front v b))) ((0 : Nat) : Int) v = 0 := by
      unfold headE
      rw [if_pos ⟨by omega, by omega, by omega, by omega⟩]
      simp [front, e8]
    have ht : Pk.takeNum (front v b' ++ eight (sum (front v b))) (((0 : Nat) : Int) + 2) = (b.length, 2 + (Pk.num b.length).length, 0) := by
      have hS : front v b' ++ eight (sum (front v b)) = [231, UInt8.ofNat v] ++ (Pk.num b.length ++ (b' ++ eight (sum (front v b)))) := by simp [front, Pk.text, hl]
      have hp : (((0 : Nat) : Int) + 2) = (([231, UInt8.ofNat v].length : Nat) : Int) := rfl
      rw [hS, hp, Pk.takeNum_at _ _ _ (by omega)]
      simp
    have hE : endsE (front v b' ++ eight (sum (front v b))) ((0 : Nat) : Int) v = (2 + (Pk.num b.length).length, 2 + (Pk.num b.length).length + b.length, 0) := by
      unfold endsE
      rw [if_pos hh, ht]
      simp only [if_true]
      rw [if_pos hb, if_pos (by omega)]
    have e0 : (0 : Int) = ((0 : Nat) : Int) := rfl
    have d1 : ((front v b' ++ eight (sum (front v b))).drop (2 + (Pk.num b.length).length + b.length)).take 8 = eight (sum (front v b)) := by
      rw [List.drop_left' (by rw [hfl, hl])]
      exact List.take_of_length_le (by rw [eight_len]; exact Nat.le_refl _)
    have d2 : ((front v b' ++ eight (sum (front v b))).drop ((0 : Nat) : Int).toNat).take (2 + (Pk.num b.length).length + b.length - ((0 : Nat) : Int).toNat) = front v b' := by
      have : ((0 : Nat) : Int).toNat = 0 := rfl
      rw [this, List.drop_zero]
      exact List.take_left' (by rw [hfl, hl]; omega)
    rw [e0]
    unfold openE
    rw [hE]
    simp only [if_true, d1, d2]
    rw [if_neg]
    intro h
    exact he (eight_inj _ _ (sum_lt _) (sum_lt _) h.symm)
end Sl
