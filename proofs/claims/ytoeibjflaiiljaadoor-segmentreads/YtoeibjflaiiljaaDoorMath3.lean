
/- More laws of the plain functions: what is taken, laid, is what it was taken from; the value of groups, the lowest first. -/
import Derived.Test.YtoeibjflaiiljaaDoorMath2
namespace Pk

theorem takeF_form1 (i a : Nat) (b : UInt8) (r : List UInt8) (v q g : Nat) (hb : b.toNat < 128)
    (h : (if (i = 9 ∧ 1 < b.toNat) ∨ (i ≠ 0 ∧ b.toNat = 0) then ((0, 0, 11) : Nat × Nat × Nat) else (a + b.toNat * 128 ^ i, i + 1, 0)) = (v, q, 0)) :
    ∃ x, v = a + x * 128 ^ i ∧ i < q ∧ (b :: r).take (q - i) = numF g x ∧ (i ≠ 0 → x ≠ 0) := by
  split at h
  · simp at h
  · rename_i hl
    simp only [Prod.mk.injEq, and_true] at h
    obtain ⟨rfl, rfl⟩ := h
    refine ⟨b.toNat, rfl, by omega, ?_, by omega⟩
    rw [numF_lt g _ hb, show i + 1 - i = 0 + 1 from by omega, List.take_succ_cons]
    simp
theorem takeF_form (f : Nat) : ∀ (i a : Nat) (l : List UInt8) (v q : Nat), takeF (f + 1) i a l = (v, q, 0) →
    ∃ x, v = a + x * 128 ^ i ∧ i < q ∧ l.take (q - i) = numF f x ∧ (i ≠ 0 → x ≠ 0) := by
  induction f with
  | zero =>
    intro i a l v q h
    cases l with
    | nil => simp [takeF] at h
    | cons b r =>
      rw [takeF] at h
      split at h
      · simp [takeF] at h
      · exact takeF_form1 i a b r v q 0 (by omega) h
  | succ f ih =>
    intro i a l v q h
    cases l with
    | nil => simp [takeF] at h
    | cons b r =>
      rw [takeF] at h
      split at h
      · rename_i hge
        obtain ⟨y, hv, hq, ht, hy⟩ := ih (i + 1) _ r v q h
        have hy0 := hy (by omega)
        have hb : b.toNat < 256 := b.toNat_lt
        refine ⟨b.toNat % 128 + 128 * y, ?_, by omega, ?_, by omega⟩
        · rw [hv, Nat.pow_succ, Nat.add_mul, Nat.mul_comm (128 ^ i) 128, ← Nat.mul_assoc, Nat.mul_comm y 128]
          omega
        · rw [numF_ge f _ (by omega)]
          have e1 : (b.toNat % 128 + 128 * y) % 128 + 128 = b.toNat := by omega
          have e2 : (b.toNat % 128 + 128 * y) / 128 = y := by omega
          have e3 : q - i = (q - (i + 1)) + 1 := by omega
          rw [e1, e2, e3, List.take_succ_cons, ht]
          simp
      · exact takeF_form1 i a b r v q (f + 1) (by omega) h
theorem take_form (l : List UInt8) (v q : Nat) (h : take l = (v, q, 0)) : l.take q = num v := by
  obtain ⟨x, hv, _, ht, _⟩ := takeF_form 9 0 0 l v q h
  simp at hv ht
  rw [hv]; exact ht

def val : List UInt8 → Nat
  | [] => 0
  | b :: r => b.toNat % 128 + 128 * val r
theorem val_snoc (l : List UInt8) (b : UInt8) : val (l ++ [b]) = val l + b.toNat % 128 * 128 ^ l.length := by
  induction l with
  | nil => simp [val]
  | cons c r ih =>
    simp only [List.cons_append, val, ih, List.length_cons, Nat.pow_succ, Nat.mul_add]
    have : 128 * (b.toNat % 128 * 128 ^ r.length) = b.toNat % 128 * (128 ^ r.length * 128) := by
      rw [Nat.mul_left_comm, Nat.mul_comm 128 (128 ^ r.length)]
    omega
theorem val_lt (l : List UInt8) : val l < 128 ^ l.length := by
  induction l with
  | nil => simp [val]
  | cons b r ih => simp only [val, List.length_cons, Nat.pow_succ]; omega
theorem val_drop (l : List UInt8) : ∀ j, 128 ^ j * val (l.drop j) ≤ val l := by
  induction l with
  | nil => intro j; simp [val]
  | cons b r ih =>
    intro j
    cases j with
    | zero => simp
    | succ j =>
      have := ih j
      simp only [List.drop_succ_cons, val, Nat.pow_succ]
      have e : 128 ^ j * 128 * val (r.drop j) = 128 * (128 ^ j * val (r.drop j)) := by rw [Nat.mul_comm (128 ^ j) 128, Nat.mul_assoc]
      omega

/- how the run of bytes that are 128 or more ends -/
theorem take_run (l : List UInt8) : ∀ j, j ≤ 10 → (∀ i (h : i < l.length), i < j → 128 ≤ l[i].toNat) → j ≤ l.length →
    take l = takeF (10 - j) j (val (l.take j)) (l.drop j) := by
  intro j
  induction j with
  | zero => intro _ _ _; simp [take, val]
  | succ j ih =>
    intro hj hall hl
    have hjl : j < l.length := by omega
    rw [ih (by omega) (fun i h hi => hall i h (by omega)) (by omega), List.drop_eq_getElem_cons hjl, show 10 - j = (10 - (j + 1)) + 1 from by omega, takeF, if_pos (hall j hjl (by omega)),
      List.take_succ_eq_append_getElem hjl, val_snoc, List.length_take, Nat.min_eq_left (by omega)]
theorem take_ten (l : List UInt8) (h : ∀ i (h : i < l.length), i < 10 → 128 ≤ l[i].toNat) (hl : 10 ≤ l.length) : take l = (0, 0, 11) := by
  rw [take_run l 10 (by omega) h hl]; simp [takeF]
theorem take_short (l : List UInt8) (h : ∀ i (h : i < l.length), 128 ≤ l[i].toNat) (hl : l.length < 10) : take l = (0, 0, 10) := by
  rw [take_run l l.length (by omega) (fun i hi _ => h i hi) (by omega), List.drop_length]
  rw [show 10 - l.length = (9 - l.length) + 1 from by omega, takeF]
theorem take_end (l : List UInt8) (j : Nat) (hj : j < l.length) (hj9 : j ≤ 9) (h : ∀ i (h : i < l.length), i < j → 128 ≤ l[i].toNat) (hb : l[j].toNat < 128) :
    take l = if (j = 9 ∧ 1 < l[j].toNat) ∨ (j ≠ 0 ∧ l[j].toNat = 0) then (0, 0, 11) else (val (l.take (j + 1)), j + 1, 0) := by
  rw [take_run l j (by omega) h (by omega), List.drop_eq_getElem_cons hj, show 10 - j = (9 - j) + 1 from by omega, takeF, if_neg (by omega),
    List.take_succ_eq_append_getElem hj, val_snoc, List.length_take, Nat.min_eq_left (by omega), Nat.mod_eq_of_lt hb]
theorem val_small (l : List UInt8) (j : Nat) (hj : j < l.length) (hj9 : j ≤ 9) (hb : l[j].toNat < 128) :
    val (l.take (j + 1)) < 18446744073709551616 ↔ ¬ (j = 9 ∧ 1 < l[j].toNat) := by
  have hv := val_lt (l.take j)
  rw [List.length_take, Nat.min_eq_left (by omega)] at hv
  rw [List.take_succ_eq_append_getElem hj, val_snoc, List.length_take, Nat.min_eq_left (by omega), Nat.mod_eq_of_lt hb]
  by_cases h9 : j = 9
  · subst h9
    simp only [true_and]
    constructor
    · intro h1 h2
      have := Nat.mul_le_mul_right (128 ^ 9) (show 2 ≤ l[9].toNat by omega)
      omega
    · intro h1
      have := Nat.mul_le_mul_right (128 ^ 9) (show l[9].toNat ≤ 1 by omega)
      omega
  · simp only [h9, false_and, not_false_iff, iff_true]
    have h1 := Nat.mul_le_mul_right (128 ^ j) (show l[j].toNat ≤ 127 by omega)
    have h2 : 128 ^ (j + 1) ≤ 128 ^ 9 := Nat.pow_le_pow_right (by omega) (by omega)
    rw [Nat.pow_succ] at h2
    omega
theorem val_form (l : List UInt8) (j : Nat) (hj : j < l.length) (hj9 : j ≤ 9) (h : ∀ i (h : i < l.length), i < j → 128 ≤ l[i].toNat) (hb : l[j].toNat < 128) (hv : ¬ (j = 9 ∧ 1 < l[j].toNat)) :
    num (val (l.take (j + 1))) = l.take (j + 1) ↔ ¬ (j ≠ 0 ∧ l[j].toNat = 0) := by
  have ht := take_end l j hj hj9 h hb
  constructor
  · intro e hz
    rw [if_pos (Or.inr hz)] at ht
    have h1 := take_num (val (l.take (j + 1))) (l.drop (j + 1)) ((val_small l j hj hj9 hb).2 hv)
    rw [e, List.take_append_drop, ht] at h1
    simp at h1
  · intro hz
    rw [if_neg (by omega)] at ht
    exact (take_form l _ _ ht).symm
end Pk
