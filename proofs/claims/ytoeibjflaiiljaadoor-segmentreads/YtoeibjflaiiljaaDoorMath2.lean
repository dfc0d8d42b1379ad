
/- More laws of the plain functions: what was laid is taken again; forms and their order. -/
import Derived.Test.YtoeibjflaiiljaaDoorMath
namespace Pk

theorem takeF_last (f i a x : Nat) (r : List UInt8) (g : Nat) (hx : x < 128) (hf : f + i = 10) (ht : a + x * 128 ^ i < 18446744073709551616) (hi : i = 0 ∨ x ≠ 0) :
    takeF f i a (numF g x ++ r) = (a + x * 128 ^ i, i + (numF g x).length, 0) := by
  have hi9 : i ≤ 9 := by
    rcases Nat.lt_or_ge i 10 with h | h
    · omega
    · have h1 : 128 ^ 10 ≤ 128 ^ i := Nat.pow_le_pow_right (by omega) h
      have h2 := Nat.mul_le_mul (show 1 ≤ x by omega) h1
      omega
  obtain ⟨f, rfl⟩ : ∃ k, f = k + 1 := ⟨f - 1, by omega⟩
  have hb : (UInt8.ofNat x).toNat = x := by simp; omega
  rw [numF_lt g x hx, List.cons_append, takeF, hb, if_neg (by omega), if_neg]
  · simp
  · rintro (⟨h9, h1⟩ | ⟨h0, h1⟩)
    · subst h9
      have h2 := Nat.mul_le_mul_right (128 ^ 9) (show 2 ≤ x by omega)
      omega
    · omega
/- what was laid is taken again, whatever is behind -/
theorem takeF_numF (g : Nat) : ∀ (f i a x : Nat) (r : List UInt8), x < 128 ^ (g + 1) → f + i = 10 → a < 128 ^ i → a + x * 128 ^ i < 18446744073709551616 → (i = 0 ∨ x ≠ 0) →
    takeF f i a (numF g x ++ r) = (a + x * 128 ^ i, i + (numF g x).length, 0) := by
  induction g with
  | zero =>
    intro f i a x r hx hf ha ht hi
    have hx1 : x < 128 := by simpa using hx
    exact takeF_last f i a x r 0 hx1 hf ht hi
  | succ g ih =>
    intro f i a x r hx hf ha ht hi
    by_cases hlt : x < 128
    · exact takeF_last f i a x r (g + 1) hlt hf ht hi
    · have hi9 : i ≤ 9 := by
        rcases Nat.lt_or_ge i 10 with h | h
        · omega
        · have h1 : 128 ^ 10 ≤ 128 ^ i := Nat.pow_le_pow_right (by omega) h
          have h2 := Nat.mul_le_mul (show 1 ≤ x by omega) h1
          omega
      obtain ⟨f, rfl⟩ : ∃ k, f = k + 1 := ⟨f - 1, by omega⟩
      have hb : (UInt8.ofNat (x % 128 + 128)).toNat = x % 128 + 128 := by simp; omega
      have hm : (x % 128 + 128) % 128 = x % 128 := by omega
      rw [numF_ge g x hlt, List.cons_append, takeF, hb, if_pos (by omega), hm]
      have e : a + x % 128 * 128 ^ i + x / 128 * 128 ^ (i + 1) = a + x * 128 ^ i := by
        have : x * 128 ^ i = (x / 128 * 128 + x % 128) * 128 ^ i := by congr 1; omega
        rw [this, Nat.pow_succ, Nat.add_mul, Nat.mul_assoc (x / 128), Nat.mul_comm 128 (128 ^ i)]
        omega
      have hp : a + x % 128 * 128 ^ i < 128 ^ (i + 1) := by
        have h1 := Nat.mul_le_mul_right (128 ^ i) (show x % 128 ≤ 127 by omega)
        rw [Nat.pow_succ]; omega
      rw [ih f (i + 1) _ (x / 128) r (by rw [Nat.pow_succ] at hx; omega) (by omega) hp (by rw [e]; exact ht) (Or.inr (by omega)), e]
      simp; omega
theorem take_num (n : Nat) (r : List UInt8) (h : n < 18446744073709551616) : take (num n ++ r) = (n, (num n).length, 0) := by
  have := takeF_numF 9 10 0 0 n r (by omega) rfl (by simp) (by simpa using h) (Or.inl rfl)
  simpa [take, num] using this
/- a greater number has no shorter form -/
theorem numF_mono (f : Nat) : ∀ (x y : Nat), x ≤ y → (numF f x).length ≤ (numF f y).length := by
  induction f with
  | zero => intro x y _; simp [numF]
  | succ f ih =>
    intro x y h
    by_cases hx : x < 128
    · rw [numF_lt _ x hx]; exact (numF_len (f + 1) y).1
    · rw [numF_ge f x hx, numF_ge f y (by omega)]
      have := ih (x / 128) (y / 128) (by omega)
      simp; omega
theorem num_mono (x y : Nat) (h : x ≤ y) : (num x).length ≤ (num y).length := numF_mono 9 x y h
/- forms of unlike numbers do not begin with each other -/
theorem num_prefix (a b : Nat) (ha : a < 18446744073709551616) (hb : b < 18446744073709551616) (e : num a = (num b).take (num a).length) : a = b := by
  have hs : num b = num a ++ (num b).drop (num a).length := by
    have := (List.take_append_drop (num a).length (num b)).symm
    rwa [← e] at this
  have h1 := take_num b [] hb
  rw [List.append_nil, hs, take_num a _ ha] at h1
  exact (Prod.mk.injEq _ _ _ _ ▸ h1).1
theorem num_inj_min (a b : Nat) (ha : a < 18446744073709551616) (hb : b < 18446744073709551616) (h : (num a).take (min (num a).length (num b).length) = (num b).take (min (num a).length (num b).length)) : a = b := by
  rcases Nat.le_total (num a).length (num b).length with hl | hl
  · rw [Nat.min_eq_left hl, List.take_length] at h
    exact num_prefix a b ha hb h
  · rw [Nat.min_eq_right hl, List.take_length] at h
    exact (num_prefix b a hb ha h.symm).symm


end Pk
