
/- Plain functions on numbers and lists of bytes that say what package pack lays and takes, and their laws; nothing of the program. -/
namespace Pk

def numF : Nat → Nat → List UInt8
  | 0, n => [UInt8.ofNat n]
  | f + 1, n => if n < 128 then [UInt8.ofNat n] else UInt8.ofNat (n % 128 + 128) :: numF f (n / 128)
def num (n : Nat) : List UInt8 := numF 9 n

theorem numF_lt (f n : Nat) (h : n < 128) : numF f n = [UInt8.ofNat n] := by
  cases f with
  | zero => rfl
  | succ f => simp [numF, h]
theorem numF_ge (f n : Nat) (h : ¬ n < 128) : numF (f + 1) n = UInt8.ofNat (n % 128 + 128) :: numF f (n / 128) := by
  simp [numF, h]
theorem numF_len (f n : Nat) : 1 ≤ (numF f n).length ∧ (numF f n).length ≤ f + 1 := by
  induction f generalizing n with
  | zero => simp [numF]
  | succ f ih =>
    by_cases h : n < 128
    · simp [numF, h]
    · have := ih (n / 128)
      simp [numF, h]; omega
theorem num_len (n : Nat) : 1 ≤ (num n).length ∧ (num n).length ≤ 10 := numF_len 9 n
/- the fuel is of no matter where it suffices -/
theorem numF_fuel (f g n : Nat) (hf : n < 128 ^ (f + 1)) (hg : n < 128 ^ (g + 1)) : numF f n = numF g n := by
  induction f generalizing g n with
  | zero => rw [numF_lt 0 n (by simpa using hf), numF_lt g n (by simpa using hf)]
  | succ f ih =>
    by_cases h : n < 128
    · rw [numF_lt _ n h, numF_lt _ n h]
    · cases g with
      | zero => simp at hg; omega
      | succ g =>
        rw [numF_ge f n h, numF_ge g n h, ih g (n / 128)]
        · rw [Nat.pow_succ] at hf; omega
        · rw [Nat.pow_succ] at hg; omega

/- a number that may be below 0, as one that is not -/
def sgn (m : Int) : Nat := if 0 ≤ m then 2 * m.toNat else 2 * (-(m + 1)).toNat + 1
theorem sgn_lt (m : Int) (h0 : -9223372036854775808 ≤ m) (h1 : m < 9223372036854775808) : sgn m < 18446744073709551616 := by
  unfold sgn; split <;> omega
theorem sgn_pos (m : Int) (h : 0 ≤ m) : (sgn m : Int) = m * 2 := by unfold sgn; rw [if_pos h]; omega
theorem sgn_neg (m : Int) (h : ¬ 0 ≤ m) : (sgn m : Int) = -(m + 1) * 2 + 1 := by unfold sgn; rw [if_neg h]; omega

/- taking a number: its value, how many bytes it is, the error -/
def takeF : Nat → Nat → Nat → List UInt8 → Nat × Nat × Nat
  | 0, _, _, _ => (0, 0, 11)
  | _ + 1, _, _, [] => (0, 0, 10)
  | f + 1, i, a, b :: r =>
    if 128 ≤ b.toNat then takeF f (i + 1) (a + b.toNat % 128 * 128 ^ i) r
    else if (i = 9 ∧ 1 < b.toNat) ∨ (i ≠ 0 ∧ b.toNat = 0) then (0, 0, 11)
    else (a + b.toNat * 128 ^ i, i + 1, 0)
def take (l : List UInt8) : Nat × Nat × Nat := takeF 10 0 0 l
def takeNum (s : List UInt8) (p : Int) : Nat × Nat × Nat :=
  if 0 ≤ p ∧ p ≤ s.length then ((take (s.drop p.toNat)).1, if (take (s.drop p.toNat)).2.2 = 0 then p.toNat + (take (s.drop p.toNat)).2.1 else 0, (take (s.drop p.toNat)).2.2) else (0, 0, 2)

theorem takeF_spec (f : Nat) : ∀ (i a : Nat) (l : List UInt8), f + i = 10 → a < 128 ^ i →
    ((takeF f i a l).2.2 = 0 ∧ (takeF f i a l).1 < 18446744073709551616 ∧ i + 1 ≤ (takeF f i a l).2.1 ∧ (takeF f i a l).2.1 ≤ i + l.length) ∨
    takeF f i a l = (0, 0, 10) ∨ takeF f i a l = (0, 0, 11) := by
  induction f with
  | zero => intro i a l _ _; right; right; simp [takeF]
  | succ f ih =>
    intro i a l hi ha
    cases l with
    | nil => right; left; simp [takeF]
    | cons b r =>
      have hb : b.toNat < 256 := b.toNat_lt
      rw [takeF]
      split
      · rename_i hge
        have hm : b.toNat % 128 ≤ 127 := by omega
        have := ih (i + 1) (a + b.toNat % 128 * 128 ^ i) r (by omega) (by
          have := Nat.mul_le_mul_right (128 ^ i) hm
          rw [Nat.pow_succ]; omega)
        rcases this with ⟨h1, h2, h3, h4⟩ | h | h
        · left; refine ⟨h1, h2, by omega, ?_⟩; simp; omega
        · right; left; exact h
        · right; right; exact h
      · split
        · right; right; rfl
        · rename_i hlt hl
          left
          refine ⟨rfl, ?_, Nat.le_refl _, by simp⟩
          by_cases h9 : i = 9
          · subst h9
            have hb1 : b.toNat ≤ 1 := by omega
            have := Nat.mul_le_mul_right (128 ^ 9) hb1
            simp only at *
            omega
          · have hb1 : b.toNat ≤ 127 := by omega
            have h1 := Nat.mul_le_mul_right (128 ^ i) hb1
            have h2 : 128 ^ (i + 1) ≤ 128 ^ 9 := Nat.pow_le_pow_right (by omega) (by omega)
            rw [Nat.pow_succ] at h2
            simp only at *
            omega
theorem take_spec (l : List UInt8) :
    ((take l).2.2 = 0 ∧ (take l).1 < 18446744073709551616 ∧ 1 ≤ (take l).2.1 ∧ (take l).2.1 ≤ l.length) ∨ take l = (0, 0, 10) ∨ take l = (0, 0, 11) := by
  have := takeF_spec 10 0 0 l rfl (by simp)
  simpa [take] using this
theorem takeNum_spec (s : List UInt8) (p : Int) :
    ((takeNum s p).2.2 = 0 ∧ (takeNum s p).1 < 18446744073709551616 ∧ 0 ≤ p ∧ p < (takeNum s p).2.1 ∧ (takeNum s p).2.1 ≤ s.length) ∨
    takeNum s p = (0, 0, 2) ∨ takeNum s p = (0, 0, 10) ∨ takeNum s p = (0, 0, 11) := by
  unfold takeNum
  by_cases hp : 0 ≤ p ∧ p ≤ s.length
  · rw [if_pos hp]
    rcases take_spec (s.drop p.toNat) with ⟨h1, h2, h3, h4⟩ | h | h
    · left
      rw [List.length_drop] at h4
      simp only [h1, if_true]
      refine ⟨trivial, h2, hp.1, ?_, ?_⟩ <;> omega
    · right; right; left; rw [h]; simp
    · right; right; right; rw [h]; simp
  · rw [if_neg hp]; right; left; rfl
def unsg (n : Nat) : Int := if n % 2 = 0 then ((n / 2 : Nat) : Int) else -((n / 2 : Nat) : Int) - 1

/- texts, one behind the other, each behind its length -/
def text (s : List UInt8) : List UInt8 := num s.length ++ s
def body (l : List ByteArray) : List UInt8 := l.flatMap fun s => text s.data.toList
def texts (l : List ByteArray) : List UInt8 := num l.length ++ body l
theorem body_snoc (l : List ByteArray) (s : ByteArray) : body (l ++ [s]) = body l ++ text s.data.toList := by simp [body]
theorem body_take_le (l : List ByteArray) (k : Nat) : (body (l.take k)).length ≤ (body l).length := by
  have : body l = body (l.take k) ++ body (l.drop k) := by
    have e : body (l.take k ++ l.drop k) = body (l.take k) ++ body (l.drop k) := by simp only [body, List.flatMap_append]
    rwa [List.take_append_drop] at e
  rw [this]; simp

end Pk
