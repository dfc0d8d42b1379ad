
/- Plain functions that say what package seal reckons: the register's step, sums, and their laws; nothing of the program. -/
namespace Sl

def poly : Nat := 14514072000185962306
def z (r : Nat) : Nat := (r / 2) ^^^ (if r % 2 = 1 then poly else 0)
def zs : Nat → Nat → Nat
  | 0, r => r
  | n + 1, r => zs n (z r)
def crc (r : Nat) (l : List UInt8) : Nat := l.foldl (fun r b => zs 8 (r ^^^ b.toNat)) r
def ones : Nat := 18446744073709551615
def sum (l : List UInt8) : Nat := ones - crc ones l

theorem half_xor (a b : Nat) : (a ^^^ b) / 2 = (a / 2) ^^^ (b / 2) := by
  have := Nat.shiftRight_xor_distrib (i := 1) (a := a) (b := b)
  simpa [Nat.shiftRight_succ] using this
theorem odd_xor (a b : Nat) : (a ^^^ b) % 2 = (a % 2) ^^^ (b % 2) := by
  simpa using Nat.xor_mod_two_pow (n := 1) (a := a) (b := b)
theorem z_xor (a b : Nat) : z (a ^^^ b) = z a ^^^ z b := by
  unfold z
  rw [half_xor, odd_xor]
  rcases Nat.mod_two_eq_zero_or_one a with ha | ha <;> rcases Nat.mod_two_eq_zero_or_one b with hb | hb <;> simp [ha, hb]
  · ac_rfl
  · ac_rfl
  · have : ∀ x y p : Nat, x ^^^ y = x ^^^ p ^^^ (y ^^^ p) := by
      intro x y p
      have e : x ^^^ p ^^^ (y ^^^ p) = x ^^^ y ^^^ (p ^^^ p) := by ac_rfl
      rw [e]; simp
    exact this _ _ _
theorem zs_xor (n : Nat) : ∀ a b, zs n (a ^^^ b) = zs n a ^^^ zs n b := by
  induction n with
  | zero => intro a b; rfl
  | succ n ih => intro a b; rw [zs, zs, zs, z_xor, ih]
theorem z_two (x : Nat) : z (2 * x) = x := by unfold z; simp
theorem zs_pow (n : Nat) : ∀ x, zs n (2 ^ n * x) = x := by
  induction n with
  | zero => intro x; simp [zs]
  | succ n ih =>
    intro x
    have e : 2 ^ (n + 1) * x = 2 * (2 ^ n * x) := by rw [Nat.pow_succ]; ac_rfl
    rw [zs, e, z_two, ih]
theorem zs_succ (n r : Nat) : zs (n + 1) r = z (zs n r) := by
  induction n generalizing r with
  | zero => rfl
  | succ n ih => rw [zs, ih]; rfl
theorem zs_add (m n r : Nat) : zs (m + n) r = zs n (zs m r) := by
  induction n generalizing r with
  | zero => rfl
  | succ n ih => rw [← Nat.add_assoc, zs_succ, ih, zs_succ]
theorem z_zero : z 0 = 0 := by decide
theorem zs_zero (n : Nat) : zs n 0 = 0 := by
  induction n with
  | zero => rfl
  | succ n ih => rw [zs, z_zero, ih]
theorem z_lt (r : Nat) (h : r < 18446744073709551616) : z r < 18446744073709551616 := by
  unfold z
  refine Nat.xor_lt_two_pow (n := 64) (by omega) ?_
  split <;> decide
theorem zs_lt (n r : Nat) (h : r < 18446744073709551616) : zs n r < 18446744073709551616 := by
  induction n generalizing r with
  | zero => exact h
  | succ n ih => exact ih _ (z_lt r h)
theorem crc_lt (l : List UInt8) : ∀ r, r < 18446744073709551616 → crc r l < 18446744073709551616 := by
  induction l with
  | nil => intro r h; exact h
  | cons b l ih =>
    intro r h
    exact ih _ (zs_lt 8 _ (Nat.xor_lt_two_pow (n := 64) h (by have := b.toNat_lt; omega)))
theorem sum_lt (l : List UInt8) : sum l < 18446744073709551616 := by unfold sum ones; omega
theorem crc_append (r : Nat) (a b : List UInt8) : crc r (a ++ b) = crc (crc r a) b := by simp [crc]
theorem crc_snoc (r : Nat) (a : List UInt8) (b : UInt8) : crc r (a ++ [b]) = zs 8 (crc r a ^^^ b.toNat) := by simp [crc]

/- what stands low and what stands high do not meet -/
theorem high_low (i a b : Nat) (h : b < 2 ^ i) : (2 ^ i * a) ^^^ b = 2 ^ i * a + b := by
  apply Nat.eq_of_testBit_eq
  intro j
  rw [Nat.testBit_xor, Nat.testBit_two_pow_mul_add a h, Nat.testBit_two_pow_mul]
  by_cases hj : j < i
  · simp [hj, Nat.not_le.2 hj]
  · have hb : b.testBit j = false := Nat.testBit_lt_two_pow (Nat.lt_of_lt_of_le h (Nat.pow_le_pow_right (by omega) (by omega)))
    simp [hj, hb, Nat.le_of_not_lt hj]

theorem round_about (x : Nat) (h : x < 2 ^ 64) : (2 ^ 64 - 1) ^^^ x = 2 ^ 64 - 1 - x := by
  apply Nat.eq_of_testBit_eq
  intro j
  have e : 2 ^ 64 - 1 - x = 2 ^ 64 - (x + 1) := by omega
  rw [Nat.testBit_xor, e, Nat.testBit_two_pow_sub_succ h, Nat.testBit_two_pow_sub_one]
  by_cases hj : j < 64
  · simp [hj]
  · have hb : x.testBit j = false := Nat.testBit_lt_two_pow (Nat.lt_of_lt_of_le h (Nat.pow_le_pow_right (by omega) (by omega)))
    simp [hj, hb]

/- four steps at once, by a table -/
def table : List Int := [0, 9051005139383707209, 18102010278767414418, 9704381199536204507, 7257036000092981153, 1814259000023245288, 11493583972846619443, 16292555063049989498, 14514072000185962306, 13040162471224305931, 3628518000046490576, 5746791986423309721, 12527462061959317731, 15006518869663149738, 6263731030979658865, 3131865515489829432]
theorem table_len : table.length = 16 := by decide
theorem table_at : ∀ j, j < 16 → table.getD j 0 = ((zs 4 j : Nat) : Int) := by decide +kernel
theorem four (r : Nat) : zs 4 r = (r / 16) ^^^ zs 4 (r % 16) := by
  have e : r = (2 ^ 4 * (r / 16)) ^^^ (r % 16) := by
    rw [high_low 4 (r / 16) (r % 16) (by omega)]; omega
  have := zs_xor 4 (2 ^ 4 * (r / 16)) (r % 16)
  rw [← e, zs_pow] at this
  exact this
theorem eight_four (r : Nat) : zs 8 r = zs 4 (zs 4 r) := zs_add 4 4 r

/- bit by bit -/
theorem z_bit (r b : Nat) (hb : b < 2) : z (r ^^^ b) = (r / 2) ^^^ (if r % 2 ≠ b then poly else 0) := by
  unfold z
  have hb2 : b = 0 ∨ b = 1 := by omega
  rw [half_xor, odd_xor]
  rcases hb2 with rfl | rfl <;> rcases Nat.mod_two_eq_zero_or_one r with h | h <;> simp [h]
theorem low_more (c j : Nat) : c % 2 ^ (j + 1) = (2 ^ j * (c / 2 ^ j % 2)) ^^^ (c % 2 ^ j) := by
  rw [high_low j _ _ (Nat.mod_lt _ (Nat.two_pow_pos j)), Nat.pow_succ, Nat.mod_mul]
  omega
theorem zs_bit (r c j : Nat) : zs (j + 1) (r ^^^ (c % 2 ^ (j + 1))) = z (zs j (r ^^^ (c % 2 ^ j)) ^^^ (c / 2 ^ j % 2)) := by
  rw [low_more, zs_succ]
  have e : r ^^^ (2 ^ j * (c / 2 ^ j % 2) ^^^ c % 2 ^ j) = (r ^^^ c % 2 ^ j) ^^^ (2 ^ j * (c / 2 ^ j % 2)) := by ac_rfl
  rw [e, zs_xor, zs_pow]
end Sl
