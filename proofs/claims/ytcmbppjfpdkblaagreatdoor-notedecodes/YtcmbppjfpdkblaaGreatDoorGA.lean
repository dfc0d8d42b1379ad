/- Parts of these proofs, laid together. -/
/- Plain functions on numbers and lists of bytes that say what package pack lays and takes, and their laws; nothing of the program. -/
namespace Pk

def numF : Nat → Nat → List UInt8
  | 0, n => [UInt8.ofNat n]
  | f + 1, n => if n < 128 then [UInt8.ofNat n] else UInt8.ofNat (n % 128 + 128) :: numF f (n / 128)
def num (n : Nat) : List UInt8 := numF 9 n

theorem numF_lt (f n : Nat) (h : n < 128) : numF f n = [UInt8.ofNat n] := by
  cases f with
  | zero => rfl
  | succ f => simp [numF, h]
theorem numF_ge (f n : Nat) (h : ¬ n < 128) : numF (f + 1) n = UInt8.ofNat (n % 128 + 128) :: numF f (n / 128) := by
  simp [numF, h]
theorem numF_len (f n : Nat) : 1 ≤ (numF f n).length ∧ (numF f n).length ≤ f + 1 := by
  induction f generalizing n with
  | zero => simp [numF]
  | succ f ih =>
    by_cases h : n < 128
    · simp [numF, h]
    · have := ih (n / 128)
      simp [numF, h]; omega
theorem num_len (n : Nat) : 1 ≤ (num n).length ∧ (num n).length ≤ 10 := numF_len 9 n
/- the fuel is of no matter where it suffices -/
theorem numF_fuel (f g n : Nat) (hf : n < 128 ^ (f + 1)) (hg : n < 128 ^ (g + 1)) : numF f n = numF g n := by
  induction f generalizing g n with
  | zero => rw [numF_lt 0 n (by simpa using hf), numF_lt g n (by simpa using hf)]
  | succ f ih =>
    by_cases h : n < 128
    · rw [numF_lt _ n h, numF_lt _ n h]
    · cases g with
      | zero => simp at hg; omega
      | succ g =>
        rw [numF_ge f n h, numF_ge g n h, ih g (n / 128)]
        · rw [Nat.pow_succ] at hf; omega
        · rw [Nat.pow_succ] at hg; omega

/- a number that may be below 0, as one that is not -/
def sgn (m : Int) : Nat := if 0 ≤ m then 2 * m.toNat else 2 * (-(m + 1)).toNat + 1
theorem sgn_lt (m : Int) (h0 : -9223372036854775808 ≤ m) (h1 : m < 9223372036854775808) : sgn m < 18446744073709551616 := by
  unfold sgn; split <;> omega
theorem sgn_pos (m : Int) (h : 0 ≤ m) : (sgn m : Int) = m * 2 := by unfold sgn; rw [if_pos h]; omega
theorem sgn_neg (m : Int) (h : ¬ 0 ≤ m) : (sgn m : Int) = -(m + 1) * 2 + 1 := by unfold sgn; rw [if_neg h]; omega

/- taking a number: its value, how many bytes it is, the error -/
def takeF : Nat → Nat → Nat → List UInt8 → Nat × Nat × Nat
  | 0, _, _, _ => (0, 0, 11)
  | _ + 1, _, _, [] => (0, 0, 10)
  | f + 1, i, a, b :: r =>
    if 128 ≤ b.toNat then takeF f (i + 1) (a + b.toNat % 128 * 128 ^ i) r
    else if (i = 9 ∧ 1 < b.toNat) ∨ (i ≠ 0 ∧ b.toNat = 0) then (0, 0, 11)
    else (a + b.toNat * 128 ^ i, i + 1, 0)
def take (l : List UInt8) : Nat × Nat × Nat := takeF 10 0 0 l
def takeNum (s : List UInt8) (p : Int) : Nat × Nat × Nat :=
  if 0 ≤ p ∧ p ≤ s.length then ((take (s.drop p.toNat)).1, if (take (s.drop p.toNat)).2.2 = 0 then p.toNat + (take (s.drop p.toNat)).2.1 else 0, (take (s.drop p.toNat)).2.2) else (0, 0, 2)

theorem takeF_spec (f : Nat) : ∀ (i a : Nat) (l : List UInt8), f + i = 10 → a < 128 ^ i →
    ((takeF f i a l).2.2 = 0 ∧ (takeF f i a l).1 < 18446744073709551616 ∧ i + 1 ≤ (takeF f i a l).2.1 ∧ (takeF f i a l).2.1 ≤ i + l.length) ∨
    takeF f i a l = (0, 0, 10) ∨ takeF f i a l = (0, 0, 11) := by
  induction f with
  | zero => intro i a l _ _; right; right; simp [takeF]
  | succ f ih =>
    intro i a l hi ha
    cases l with
    | nil => right; left; simp [takeF]
    | cons b r =>
      have hb : b.toNat < 256 := b.toNat_lt
      rw [takeF]
      split
      · rename_i hge
        have hm : b.toNat % 128 ≤ 127 := by omega
        have := ih (i + 1) (a + b.toNat % 128 * 128 ^ i) r (by omega) (by
          have := Nat.mul_le_mul_right (128 ^ i) hm
          rw [Nat.pow_succ]; omega)
        rcases this with ⟨h1, h2, h3, h4⟩ | h | h
        · left; refine ⟨h1, h2, by omega, ?_⟩; simp; omega
        · right; left; exact h
        · right; right; exact h
      · split
        · right; right; rfl
        · rename_i hlt hl
          left
          refine ⟨rfl, ?_, Nat.le_refl _, by simp⟩
          by_cases h9 : i = 9
          · subst h9
            have hb1 : b.toNat ≤ 1 := by omega
            have := Nat.mul_le_mul_right (128 ^ 9) hb1
            simp only at *
            omega
          · have hb1 : b.toNat ≤ 127 := by omega
            have h1 := Nat.mul_le_mul_right (128 ^ i) hb1
            have h2 : 128 ^ (i + 1) ≤ 128 ^ 9 := Nat.pow_le_pow_right (by omega) (by omega)
            rw [Nat.pow_succ] at h2
            simp only at *
            omega
theorem take_spec (l : List UInt8) :
    ((take l).2.2 = 0 ∧ (take l).1 < 18446744073709551616 ∧ 1 ≤ (take l).2.1 ∧ (take l).2.1 ≤ l.length) ∨ take l = (0, 0, 10) ∨ take l = (0, 0, 11) := by
  have := takeF_spec 10 0 0 l rfl (by simp)
  simpa [take] using this
theorem takeNum_spec (s : List UInt8) (p : Int) :
    ((takeNum s p).2.2 = 0 ∧ (takeNum s p).1 < 18446744073709551616 ∧ 0 ≤ p ∧ p < (takeNum s p).2.1 ∧ (takeNum s p).2.1 ≤ s.length) ∨
    takeNum s p = (0, 0, 2) ∨ takeNum s p = (0, 0, 10) ∨ takeNum s p = (0, 0, 11) := by
  unfold takeNum
  by_cases hp : 0 ≤ p ∧ p ≤ s.length
  · rw [if_pos hp]
    rcases take_spec (s.drop p.toNat) with ⟨h1, h2, h3, h4⟩ | h | h
    · left
      rw [List.length_drop] at h4
      simp only [h1, if_true]
      refine ⟨trivial, h2, hp.1, ?_, ?_⟩ <;> omega
    · right; right; left; rw [h]; simp
    · right; right; right; rw [h]; simp
  · rw [if_neg hp]; right; left; rfl
def unsg (n : Nat) : Int := if n % 2 = 0 then ((n / 2 : Nat) : Int) else -((n / 2 : Nat) : Int) - 1

/- texts, one behind the other, each behind its length -/
def text (s : List UInt8) : List UInt8 := num s.length ++ s
def body (l : List ByteArray) : List UInt8 := l.flatMap fun s => text s.data.toList
def texts (l : List ByteArray) : List UInt8 := num l.length ++ body l
theorem body_snoc (l : List ByteArray) (s : ByteArray) : body (l ++ [s]) = body l ++ text s.data.toList := by simp [body]
theorem body_take_le (l : List ByteArray) (k : Nat) : (body (l.take k)).length ≤ (body l).length := by
  have : body l = body (l.take k) ++ body (l.drop k) := by
    have e : body (l.take k ++ l.drop k) = body (l.take k) ++ body (l.drop k) := by simp only [body, List.flatMap_append]
    rwa [List.take_append_drop] at e
  rw [this]; simp

end Pk
/- More laws of the plain functions: what was laid is taken again; forms and their order. -/
namespace Pk

theorem takeF_last (f i a x : Nat) (r : List UInt8) (g : Nat) (hx : x < 128) (hf : f + i = 10) (ht : a + x * 128 ^ i < 18446744073709551616) (hi : i = 0 ∨ x ≠ 0) :
    takeF f i a (numF g x ++ r) = (a + x * 128 ^ i, i + (numF g x).length, 0) := by
  have hi9 : i ≤ 9 := by
    rcases Nat.lt_or_ge i 10 with h | h
    · omega
    · have h1 : 128 ^ 10 ≤ 128 ^ i := Nat.pow_le_pow_right (by omega) h
      have h2 := Nat.mul_le_mul (show 1 ≤ x by omega) h1
      omega
  obtain ⟨f, rfl⟩ : ∃ k, f = k + 1 := ⟨f - 1, by omega⟩
  have hb : (UInt8.ofNat x).toNat = x := by simp; omega
  rw [numF_lt g x hx, List.cons_append, takeF, hb, if_neg (by omega), if_neg]
  · simp
  · rintro (⟨h9, h1⟩ | ⟨h0, h1⟩)
    · subst h9
      have h2 := Nat.mul_le_mul_right (128 ^ 9) (show 2 ≤ x by omega)
      omega
    · omega
/- what was laid is taken again, whatever is behind -/
theorem takeF_numF (g : Nat) : ∀ (f i a x : Nat) (r : List UInt8), x < 128 ^ (g + 1) → f + i = 10 → a < 128 ^ i → a + x * 128 ^ i < 18446744073709551616 → (i = 0 ∨ x ≠ 0) →
    takeF f i a (numF g x ++ r) = (a + x * 128 ^ i, i + (numF g x).length, 0) := by
  induction g with
  | zero =>
    intro f i a x r hx hf ha ht hi
    have hx1 : x < 128 := by simpa using hx
    exact takeF_last f i a x r 0 hx1 hf ht hi
  | succ g ih =>
    intro f i a x r hx hf ha ht hi
    by_cases hlt : x < 128
    · exact takeF_last f i a x r (g + 1) hlt hf ht hi
    · have hi9 : i ≤ 9 := by
        rcases Nat.lt_or_ge i 10 with h | h
        · omega
        · have h1 : 128 ^ 10 ≤ 128 ^ i := Nat.pow_le_pow_right (by omega) h
          have h2 := Nat.mul_le_mul (show 1 ≤ x by omega) h1
          omega
      obtain ⟨f, rfl⟩ : ∃ k, f = k + 1 := ⟨f - 1, by omega⟩
      have hb : (UInt8.ofNat (x % 128 + 128)).toNat = x % 128 + 128 := by simp; omega
      have hm : (x % 128 + 128) % 128 = x % 128 := by omega
      rw [numF_ge g x hlt, List.cons_append, takeF, hb, if_pos (by omega), hm]
      have e : a + x % 128 * 128 ^ i + x / 128 * 128 ^ (i + 1) = a + x * 128 ^ i := by
        have : x * 128 ^ i = (x / 128 * 128 + x % 128) * 128 ^ i := by congr 1; omega
        rw [this, Nat.pow_succ, Nat.add_mul, Nat.mul_assoc (x / 128), Nat.mul_comm 128 (128 ^ i)]
        omega
      have hp : a + x % 128 * 128 ^ i < 128 ^ (i + 1) := by
        have h1 := Nat.mul_le_mul_right (128 ^ i) (show x % 128 ≤ 127 by omega)
        rw [Nat.pow_succ]; omega
      rw [ih f (i + 1) _ (x / 128) r (by rw [Nat.pow_succ] at hx; omega) (by omega) hp (by rw [e]; exact ht) (Or.inr (by omega)), e]
      simp; omega
theorem take_num (n : Nat) (r : List UInt8) (h : n < 18446744073709551616) : take (num n ++ r) = (n, (num n).length, 0) := by
  have := takeF_numF 9 10 0 0 n r (by omega) rfl (by simp) (by simpa using h) (Or.inl rfl)
  simpa [take, num] using this
/- a greater number has no shorter form -/
theorem numF_mono (f : Nat) : ∀ (x y : Nat), x ≤ y → (numF f x).length ≤ (numF f y).length := by
  induction f with
  | zero => intro x y _; simp [numF]
  | succ f ih =>
    intro x y h
    by_cases hx : x < 128
    · rw [numF_lt _ x hx]; exact (numF_len (f + 1) y).1
    · rw [numF_ge f x hx, numF_ge f y (by omega)]
      have := ih (x / 128) (y / 128) (by omega)
      simp; omega
theorem num_mono (x y : Nat) (h : x ≤ y) : (num x).length ≤ (num y).length := numF_mono 9 x y h
/- forms of unlike numbers do not begin with each other -/
theorem num_prefix (a b : Nat) (ha : a < 18446744073709551616) (hb : b < 18446744073709551616) (e : num a = (num b).take (num a).length) : a = b := by
  have hs : num b = num a ++ (num b).drop (num a).length := by
    have := (List.take_append_drop (num a).length (num b)).symm
    rwa [← e] at this
  have h1 := take_num b [] hb
  rw [List.append_nil, hs, take_num a _ ha] at h1
  exact (Prod.mk.injEq _ _ _ _ ▸ h1).1
theorem num_inj_min (a b : Nat) (ha : a < 18446744073709551616) (hb : b < 18446744073709551616) (h : (num a).take (min (num a).length (num b).length) = (num b).take (min (num a).length (num b).length)) : a = b := by
  rcases Nat.le_total (num a).length (num b).length with hl | hl
  · rw [Nat.min_eq_left hl, List.take_length] at h
    exact num_prefix a b ha hb h
  · rw [Nat.min_eq_right hl, List.take_length] at h
    exact (num_prefix b a hb ha h.symm).symm


end Pk
/- More laws of the plain functions: what is taken, laid, is what it was taken from; the value of groups, the lowest first. -/
namespace Pk

theorem takeF_form1 (i a : Nat) (b : UInt8) (r : List UInt8) (v q g : Nat) (hb : b.toNat < 128)
    (h : (if (i = 9 ∧ 1 < b.toNat) ∨ (i ≠ 0 ∧ b.toNat = 0) then ((0, 0, 11) : Nat × Nat × Nat) else (a + b.toNat * 128 ^ i, i + 1, 0)) = (v, q, 0)) :
    ∃ x, v = a + x * 128 ^ i ∧ i < q ∧ (b :: r).take (q - i) = numF g x ∧ (i ≠ 0 → x ≠ 0) := by
  split at h
  · simp at h
  · rename_i hl
    simp only [Prod.mk.injEq, and_true] at h
    obtain ⟨rfl, rfl⟩ := h
    refine ⟨b.toNat, rfl, by omega, ?_, by omega⟩
    rw [numF_lt g _ hb, show i + 1 - i = 0 + 1 from by omega, List.take_succ_cons]
    simp
theorem takeF_form (f : Nat) : ∀ (i a : Nat) (l : List UInt8) (v q : Nat), takeF (f + 1) i a l = (v, q, 0) →
    ∃ x, v = a + x * 128 ^ i ∧ i < q ∧ l.take (q - i) = numF f x ∧ (i ≠ 0 → x ≠ 0) := by
  induction f with
  | zero =>
    intro i a l v q h
    cases l with
    | nil => simp [takeF] at h
    | cons b r =>
      rw [takeF] at h
      split at h
      · simp [takeF] at h
      · exact takeF_form1 i a b r v q 0 (by omega) h
  | succ f ih =>
    intro i a l v q h
    cases l with
    | nil => simp [takeF] at h
    | cons b r =>
      rw [takeF] at h
      split at h
      · rename_i hge
        obtain ⟨y, hv, hq, ht, hy⟩ := ih (i + 1) _ r v q h
        have hy0 := hy (by omega)
        have hb : b.toNat < 256 := b.toNat_lt
        refine ⟨b.toNat % 128 + 128 * y, ?_, by omega, ?_, by omega⟩
        · rw [hv, Nat.pow_succ, Nat.add_mul, Nat.mul_comm (128 ^ i) 128, ← Nat.mul_assoc, Nat.mul_comm y 128]
          omega
        · rw [numF_ge f _ (by omega)]
          have e1 : (b.toNat % 128 + 128 * y) % 128 + 128 = b.toNat := by omega
          have e2 : (b.toNat % 128 + 128 * y) / 128 = y := by omega
          have e3 : q - i = (q - (i + 1)) + 1 := by omega
          rw [e1, e2, e3, List.take_succ_cons, ht]
          simp
      · exact takeF_form1 i a b r v q (f + 1) (by omega) h
theorem take_form (l : List UInt8) (v q : Nat) (h : take l = (v, q, 0)) : l.take q = num v := by
  obtain ⟨x, hv, _, ht, _⟩ := takeF_form 9 0 0 l v q h
  simp at hv ht
  rw [hv]; exact ht

def val : List UInt8 → Nat
  | [] => 0
  | b :: r => b.toNat % 128 + 128 * val r
theorem val_snoc (l : List UInt8) (b : UInt8) : val (l ++ [b]) = val l + b.toNat % 128 * 128 ^ l.length := by
  induction l with
  | nil => simp [val]
  | cons c r ih =>
    simp only [List.cons_append, val, ih, List.length_cons, Nat.pow_succ, Nat.mul_add]
    have : 128 * (b.toNat % 128 * 128 ^ r.length) = b.toNat % 128 * (128 ^ r.length * 128) := by
      rw [Nat.mul_left_comm, Nat.mul_comm 128 (128 ^ r.length)]
    omega
theorem val_lt (l : List UInt8) : val l < 128 ^ l.length := by
  induction l with
  | nil => simp [val]
  | cons b r ih => simp only [val, List.length_cons, Nat.pow_succ]; omega
theorem val_drop (l : List UInt8) : ∀ j, 128 ^ j * val (l.drop j) ≤ val l := by
  induction l with
  | nil => intro j; simp [val]
  | cons b r ih =>
    intro j
    cases j with
    | zero => simp
    | succ j =>
      have := ih j
      simp only [List.drop_succ_cons, val, Nat.pow_succ]
      have e : 128 ^ j * 128 * val (r.drop j) = 128 * (128 ^ j * val (r.drop j)) := by rw [Nat.mul_comm (128 ^ j) 128, Nat.mul_assoc]
      omega

/- how the run of bytes that are 128 or more ends -/
theorem take_run (l : List UInt8) : ∀ j, j ≤ 10 → (∀ i (h : i < l.length), i < j → 128 ≤ l[i].toNat) → j ≤ l.length →
    take l = takeF (10 - j) j (val (l.take j)) (l.drop j) := by
  intro j
  induction j with
  | zero => intro _ _ _; simp [take, val]
  | succ j ih =>
    intro hj hall hl
    have hjl : j < l.length := by omega
    rw [ih (by omega) (fun i h hi => hall i h (by omega)) (by omega), List.drop_eq_getElem_cons hjl, show 10 - j = (10 - (j + 1)) + 1 from by omega, takeF, if_pos (hall j hjl (by omega)),
      List.take_succ_eq_append_getElem hjl, val_snoc, List.length_take, Nat.min_eq_left (by omega)]
theorem take_ten (l : List UInt8) (h : ∀ i (h : i < l.length), i < 10 → 128 ≤ l[i].toNat) (hl : 10 ≤ l.length) : take l = (0, 0, 11) := by
  rw [take_run l 10 (by omega) h hl]; simp [takeF]
theorem take_short (l : List UInt8) (h : ∀ i (h : i < l.length), 128 ≤ l[i].toNat) (hl : l.length < 10) : take l = (0, 0, 10) := by
  rw [take_run l l.length (by omega) (fun i hi _ => h i hi) (by omega), List.drop_length]
  rw [show 10 - l.length = (9 - l.length) + 1 from by omega, takeF]
theorem take_end (l : List UInt8) (j : Nat) (hj : j < l.length) (hj9 : j ≤ 9) (h : ∀ i (h : i < l.length), i < j → 128 ≤ l[i].toNat) (hb : l[j].toNat < 128) :
    take l = if (j = 9 ∧ 1 < l[j].toNat) ∨ (j ≠ 0 ∧ l[j].toNat = 0) then (0, 0, 11) else (val (l.take (j + 1)), j + 1, 0) := by
  rw [take_run l j (by omega) h (by omega), List.drop_eq_getElem_cons hj, show 10 - j = (9 - j) + 1 from by omega, takeF, if_neg (by omega),
    List.take_succ_eq_append_getElem hj, val_snoc, List.length_take, Nat.min_eq_left (by omega), Nat.mod_eq_of_lt hb]
theorem val_small (l : List UInt8) (j : Nat) (hj : j < l.length) (hj9 : j ≤ 9) (hb : l[j].toNat < 128) :
    val (l.take (j + 1)) < 18446744073709551616 ↔ ¬ (j = 9 ∧ 1 < l[j].toNat) := by
  have hv := val_lt (l.take j)
  rw [List.length_take, Nat.min_eq_left (by omega)] at hv
  rw [List.take_succ_eq_append_getElem hj, val_snoc, List.length_take, Nat.min_eq_left (by omega), Nat.mod_eq_of_lt hb]
  by_cases h9 : j = 9
  · subst h9
    simp only [true_and]
    constructor
    · intro h1 h2
      have := Nat.mul_le_mul_right (128 ^ 9) (show 2 ≤ l[9].toNat by omega)
      omega
    · intro h1
      have := Nat.mul_le_mul_right (128 ^ 9) (show l[9].toNat ≤ 1 by omega)
      omega
  · simp only [h9, false_and, not_false_iff, iff_true]
    have h1 := Nat.mul_le_mul_right (128 ^ j) (show l[j].toNat ≤ 127 by omega)
    have h2 : 128 ^ (j + 1) ≤ 128 ^ 9 := Nat.pow_le_pow_right (by omega) (by omega)
    rw [Nat.pow_succ] at h2
    omega
theorem val_form (l : List UInt8) (j : Nat) (hj : j < l.length) (hj9 : j ≤ 9) (h : ∀ i (h : i < l.length), i < j → 128 ≤ l[i].toNat) (hb : l[j].toNat < 128) (hv : ¬ (j = 9 ∧ 1 < l[j].toNat)) :
    num (val (l.take (j + 1))) = l.take (j + 1) ↔ ¬ (j ≠ 0 ∧ l[j].toNat = 0) := by
  have ht := take_end l j hj hj9 h hb
  constructor
  · intro e hz
    rw [if_pos (Or.inr hz)] at ht
    have h1 := take_num (val (l.take (j + 1))) (l.drop (j + 1)) ((val_small l j hj hj9 hb).2 hv)
    rw [e, List.take_append_drop, ht] at h1
    simp at h1
  · intro hz
    rw [if_neg (by omega)] at ht
    exact (take_form l _ _ ht).symm
end Pk
/- Taking a text, and texts. -/
namespace Pk
def takeText (s : List UInt8) (p : Int) : List UInt8 × Nat × Nat :=
  if (takeNum s p).2.2 ≠ 0 then ([], 0, (takeNum s p).2.2)
  else if s.length - (takeNum s p).2.1 < (takeNum s p).1 then ([], 0, 10)
  else ((s.drop (takeNum s p).2.1).take (takeNum s p).1, (takeNum s p).2.1 + (takeNum s p).1, 0)
end Pk
/- Lists of texts that are together small. -/
namespace Pk
def smallF : Nat → List ByteArray → Bool
  | _, [] => true
  | n, s :: r => if 50000 < n + (min s.size 100000 + 10) then false else smallF (n + (min s.size 100000 + 10)) r
def small (l : List ByteArray) : Bool := smallF 0 l
theorem smallF_sum (l : List ByteArray) : ∀ n, n ≤ 50000 → smallF n l = true → n + (body l).length ≤ 50000 ∧ n + l.length * 10 ≤ 50000 ∧ ∀ s ∈ l, s.size ≤ 50000 := by
  induction l with
  | nil => intro n hn _; simp [body, hn]
  | cons s r ih =>
    intro n hn h
    rw [smallF] at h
    split at h
    · cases h
    · rename_i hle
      have := ih _ (by omega) h
      obtain ⟨h1, h2, h3⟩ := this
      have hsz : s.data.toList.length = s.size := by simp
      have hb : (body (s :: r)).length = (text s.data.toList).length + (body r).length := by simp [body]
      have ht : (text s.data.toList).length = (num s.size).length + s.size := by rw [text, List.length_append, hsz]
      have hl := num_len s.size
      refine ⟨by omega, by simp; omega, ?_⟩
      intro x hx
      rcases List.mem_cons.1 hx with rfl | hx
      · omega
      · exact h3 x hx
theorem small_sum (l : List ByteArray) (h : small l = true) : (texts l).length ≤ 50010 ∧ l.length ≤ 5000 ∧ ∀ s ∈ l, s.size ≤ 50000 := by
  obtain ⟨h1, h2, h3⟩ := smallF_sum l 0 (by omega) h
  have := num_len l.length
  refine ⟨?_, by omega, h3⟩
  rw [texts, List.length_append]; omega
end Pk
/- Taking texts, one behind the other. -/
namespace Pk
def takeList (s : List UInt8) : Nat → Nat → List (List UInt8) → List (List UInt8) × Nat × Nat
  | 0, p, acc => (acc, p, 0)
  | n + 1, p, acc => if (takeText s p).2.2 ≠ 0 then ([], 0, (takeText s p).2.2) else takeList s n (takeText s p).2.1 (acc ++ [(takeText s p).1])
def takeTexts (s : List UInt8) (p : Int) : List (List UInt8) × Nat × Nat :=
  if (takeNum s p).2.2 ≠ 0 then ([], 0, (takeNum s p).2.2) else takeList s (takeNum s p).1 (takeNum s p).2.1 []
theorem takeText_spec (s : List UInt8) (p : Int) :
    ((takeText s p).2.2 = 0 ∧ 0 ≤ p ∧ p < (takeText s p).2.1 ∧ (takeText s p).2.1 ≤ s.length ∧ (takeText s p).1.length ≤ s.length) ∨
    ((takeText s p).1 = [] ∧ (takeText s p).2.1 = 0 ∧ ((takeText s p).2.2 = 2 ∨ (takeText s p).2.2 = 10 ∨ (takeText s p).2.2 = 11)) := by
  unfold takeText
  rcases takeNum_spec s p with ⟨h1, h2, h3, h4, h5⟩ | h | h | h
  · rw [if_neg (by simp [h1])]
    by_cases hb : s.length - (takeNum s p).2.1 < (takeNum s p).1
    · rw [if_pos hb]; right; simp
    · rw [if_neg hb]
      left
      refine ⟨rfl, h3, ?_, ?_, ?_⟩
      · show p < (((takeNum s p).2.1 + (takeNum s p).1 : Nat) : Int); omega
      · show (takeNum s p).2.1 + (takeNum s p).1 ≤ s.length; omega
      · show ((s.drop (takeNum s p).2.1).take (takeNum s p).1).length ≤ s.length
        rw [List.length_take, List.length_drop]; omega
  all_goals
    rw [if_pos (by rw [h]; simp)]
    right; rw [h]; simp
theorem takeList_len (s : List UInt8) (n : Nat) : ∀ (p : Nat) (acc : List (List UInt8)), acc.length ≤ p → p ≤ s.length →
    (takeList s n p acc).1.length ≤ s.length := by
  induction n with
  | zero => intro p acc h1 h2; simp only [takeList]; omega
  | succ n ih =>
    intro p acc h1 h2
    rw [takeList]
    rcases takeText_spec s (p : Int) with ⟨h3, h4, h5, h6, _⟩ | ⟨h3, h4, h5⟩
    · rw [if_neg (by simp [h3])]
      exact ih _ _ (by simp; omega) h6
    · rw [if_pos (by omega)]; simp
theorem takeTexts_len (s : List UInt8) (p : Int) : (takeTexts s p).1.length ≤ s.length := by
  unfold takeTexts
  rcases takeNum_spec s p with ⟨h1, h2, h3, h4, h5⟩ | h | h | h
  · rw [if_neg (by simp [h1])]
    exact takeList_len s _ _ [] (by simp) h5
  all_goals
    rw [if_pos (by rw [h]; simp)]; simp
end Pk
/- What was laid is taken again, wherever it stands; what is taken, laid, is the bytes that it was taken from, and a beginning of these is not taken. -/
namespace Pk

theorem takeNum_at (A R : List UInt8) (n : Nat) (h : n < 18446744073709551616) : takeNum (A ++ (num n ++ R)) (A.length : Int) = (n, A.length + (num n).length, 0) := by
  unfold takeNum
  rw [if_pos ⟨by omega, by simp; omega⟩, Int.toNat_natCast, List.drop_left, take_num n R h]
  simp
theorem takeText_at (A R t : List UInt8) (h : t.length < 18446744073709551616) : takeText (A ++ (text t ++ R)) (A.length : Int) = (t, A.length + (text t).length, 0) := by
  have e : A ++ (text t ++ R) = A ++ (num t.length ++ (t ++ R)) := by simp [text]
  unfold takeText
  rw [e, takeNum_at A (t ++ R) t.length h]
  simp only [ne_eq, not_true_eq_false, if_false]
  rw [if_neg (by simp; omega)]
  have e2 : A ++ (num t.length ++ (t ++ R)) = (A ++ num t.length) ++ (t ++ R) := by simp
  rw [e2, show A.length + (num t.length).length = (A ++ num t.length).length by simp, List.drop_left]
  simp [text]; omega
theorem takeList_at (L : List ByteArray) : ∀ (A R : List UInt8) (acc : List (List UInt8)), (∀ s ∈ L, s.size < 18446744073709551616) →
    takeList (A ++ (body L ++ R)) L.length A.length acc = (acc ++ L.map (fun s => s.data.toList), A.length + (body L).length, 0) := by
  induction L with
  | nil => intro A R acc _; simp [takeList, body]
  | cons s L ih =>
    intro A R acc h
    have e : A ++ (body (s :: L) ++ R) = A ++ (text s.data.toList ++ (body L ++ R)) := by simp [body]
    have hs : s.data.toList.length < 18446744073709551616 := by
      have := h s (by simp)
      simpa using this
    rw [List.length_cons, takeList, e, takeText_at A (body L ++ R) s.data.toList hs]
    simp only [ne_eq, not_true_eq_false, if_false]
    have e2 : A ++ (text s.data.toList ++ (body L ++ R)) = (A ++ text s.data.toList) ++ (body L ++ R) := by simp
    rw [e2, show A.length + (text s.data.toList).length = (A ++ text s.data.toList).length by simp, ih _ R _ (fun x hx => h x (by simp [hx]))]
    simp [body]; omega
theorem takeTexts_at (A R : List UInt8) (L : List ByteArray) (hn : L.length < 18446744073709551616) (h : ∀ s ∈ L, s.size < 18446744073709551616) :
    takeTexts (A ++ (texts L ++ R)) (A.length : Int) = (L.map (fun s => s.data.toList), A.length + (texts L).length, 0) := by
  have e : A ++ (texts L ++ R) = A ++ (num L.length ++ (body L ++ R)) := by simp [texts]
  unfold takeTexts
  rw [e, takeNum_at A _ L.length hn]
  simp only [ne_eq, not_true_eq_false, if_false]
  have e2 : A ++ (num L.length ++ (body L ++ R)) = (A ++ num L.length) ++ (body L ++ R) := by simp
  rw [e2, show A.length + (num L.length).length = (A ++ num L.length).length by simp, takeList_at L _ R [] h]
  simp [texts]; omega
theorem unsg_sgn (m : Int) : unsg (sgn m) = m := by
  unfold unsg sgn
  split <;> split <;> omega

/- a beginning of what is taken is not taken -/
theorem takeF_cut (f : Nat) : ∀ (i a : Nat) (l : List UInt8) (m v q : Nat), takeF f i a l = (v, q, 0) → i < q ∧ takeF f i a (l.take m) = if q - i ≤ m then (v, q, 0) else (0, 0, 10) := by
  induction f with
  | zero => intro i a l m v q h; simp [takeF] at h
  | succ f ih =>
    intro i a l m v q h
    cases l with
    | nil => simp [takeF] at h
    | cons b r =>
      rw [takeF] at h
      cases m with
      | zero =>
        have hq : i < q := by
          split at h
          · have := (ih _ _ r 0 v q h).1; omega
          · split at h
            · simp at h
            · simp at h; omega
        refine ⟨hq, ?_⟩
        rw [List.take_zero, takeF, if_neg (by omega)]
      | succ m =>
        rw [List.take_succ_cons, takeF]
        split at h
        · rename_i hge
          rw [if_pos hge]
          have := ih _ _ r m v q h
          refine ⟨by omega, ?_⟩
          rw [this.2]
          by_cases hc : q - (i + 1) ≤ m
          · rw [if_pos hc, if_pos (by omega)]
          · rw [if_neg hc, if_neg (by omega)]
        · rename_i hge
          rw [if_neg hge]
          split at h
          · simp at h
          · rename_i hl
            rw [if_neg hl]
            simp at h
            obtain ⟨h1, h2⟩ := h
            refine ⟨by omega, ?_⟩
            rw [if_pos (by omega), h1, h2]
theorem takeNum_cut (s : List UInt8) (p m n q : Nat) (h : takeNum s (p : Int) = (n, q, 0)) (hpm : p ≤ m) : takeNum (s.take m) (p : Int) = if q ≤ m then (n, q, 0) else (0, 0, 10) := by
  rcases Nat.lt_or_ge s.length m with hm | hm
  · rw [List.take_of_length_le (by omega), h]
    rcases takeNum_spec s (p : Int) with ⟨_, _, _, _, h5⟩ | h' | h' | h'
    · rw [h] at h5
      rw [if_pos (by simp at h5; omega)]
    all_goals rw [h] at h'; simp at h'
  · unfold takeNum at h ⊢
    by_cases hp : (0 : Int) ≤ p ∧ (p : Int) ≤ s.length
    · rw [if_pos hp, Int.toNat_natCast] at h
      rw [if_pos ⟨by omega, by rw [List.length_take]; omega⟩, Int.toNat_natCast]
      simp only [Prod.mk.injEq] at h
      obtain ⟨h1, h2, h3⟩ := h
      rw [if_pos h3] at h2
      have ht : take (s.drop p) = (n, (take (s.drop p)).2.1, 0) := by
        rw [Prod.ext_iff, Prod.ext_iff]; exact ⟨h1, rfl, h3⟩
      have hd : (s.take m).drop p = (s.drop p).take (m - p) := by rw [List.drop_take]
      have hc := (takeF_cut 10 0 0 (s.drop p) (m - p) n _ ht).2
      rw [hd]
      have hc' : take ((s.drop p).take (m - p)) = if (take (s.drop p)).2.1 - 0 ≤ m - p then (n, (take (s.drop p)).2.1, 0) else (0, 0, 10) := hc
      rw [hc']
      by_cases hq : q ≤ m
      · rw [if_pos hq, if_pos (by omega)]; simp; omega
      · rw [if_neg hq, if_neg (by omega)]; simp
    · rw [if_neg hp] at h; simp at h
theorem takeText_cut (s t : List UInt8) (p m q : Nat) (h : takeText s (p : Int) = (t, q, 0)) (hpm : p ≤ m) : takeText (s.take m) (p : Int) = if q ≤ m then (t, q, 0) else ([], 0, 10) := by
  have hsp := takeNum_spec s (p : Int)
  unfold takeText at h ⊢
  rcases hsp with ⟨h1, h2, h3, h4, h5⟩ | h' | h' | h'
  · have hN : takeNum s (p : Int) = ((takeNum s (p : Int)).1, (takeNum s (p : Int)).2.1, 0) := by
      rw [Prod.ext_iff, Prod.ext_iff]; exact ⟨rfl, rfl, h1⟩
    rw [if_neg (by simp [h1])] at h
    have hc := takeNum_cut s p m _ _ hN hpm
    generalize takeNum s (p : Int) = N at *
    obtain ⟨n, r, e⟩ := N
    simp only at *
    split at h
    · simp at h
    · rename_i hb
      simp only [Prod.mk.injEq] at h
      obtain ⟨rfl, rfl, _⟩ := h
      rw [hc]
      by_cases hr : r ≤ m
      · rw [if_pos hr]
        simp only [ne_eq, not_true_eq_false, if_false]
        by_cases hq : r + n ≤ m
        · rw [if_pos hq, if_neg (by rw [List.length_take]; omega), List.drop_take, List.take_take, Nat.min_eq_left (by omega)]
        · rw [if_neg hq, if_pos (by rw [List.length_take]; omega)]
      · rw [if_neg hr, if_pos (show ((0, 0, 10) : Nat × Nat × Nat).2.2 ≠ 0 by decide), if_neg (show ¬ r + n ≤ m by omega)]
  all_goals
    rw [h', if_pos (by simp)] at h
    simp at h
theorem takeList_ge (s : List UInt8) (n : Nat) : ∀ (p : Nat) (acc l : List (List UInt8)) (q : Nat), takeList s n p acc = (l, q, 0) → p ≤ q ∧ (0 < n → p < q) ∧ l.length = acc.length + n ∧ q ≤ max p s.length := by
  induction n with
  | zero => intro p acc l q h; simp [takeList] at h; obtain ⟨rfl, rfl⟩ := h; simp; omega
  | succ n ih =>
    intro p acc l q h
    rw [takeList] at h
    rcases takeText_spec s (p : Int) with ⟨h3, h4, h5, h6, _⟩ | ⟨h3, h4, h5⟩
    · rw [if_neg (by simp [h3])] at h
      have := ih _ _ l q h
      simp at this
      omega
    · rw [if_pos (by omega)] at h
      simp at h; omega
theorem takeList_cut (s : List UInt8) (m n : Nat) : ∀ (p : Nat) (acc l : List (List UInt8)) (q : Nat), takeList s n p acc = (l, q, 0) → p ≤ m →
    takeList (s.take m) n p acc = if q ≤ m then (l, q, 0) else ([], 0, 10) := by
  induction n with
  | zero => intro p acc l q h hp; simp [takeList] at h ⊢; obtain ⟨rfl, rfl⟩ := h; rw [if_pos hp]
  | succ n ih =>
    intro p acc l q h hp
    rw [takeList] at h ⊢
    rcases takeText_spec s (p : Int) with ⟨h3, h4, h5, h6, _⟩ | ⟨h3, h4, h5⟩
    · rw [if_neg (by simp [h3])] at h
      have hT : takeText s (p : Int) = ((takeText s (p : Int)).1, (takeText s (p : Int)).2.1, 0) := by
        rw [Prod.ext_iff, Prod.ext_iff]; exact ⟨rfl, rfl, h3⟩
      have hc := takeText_cut s _ p m _ hT hp
      rw [hc]
      by_cases hr : (takeText s (p : Int)).2.1 ≤ m
      · rw [if_pos hr]
        simp only [ne_eq, not_true_eq_false, if_false]
        exact ih _ _ l q h hr
      · have := (takeList_ge s n _ _ l q h).1
        rw [if_neg hr, if_pos (show (([], 0, 10) : List UInt8 × Nat × Nat).2.2 ≠ 0 by decide), if_neg (show ¬ q ≤ m by omega)]
    · rw [if_pos (by omega)] at h
      simp at h; omega
theorem takeTexts_cut (s : List UInt8) (m : Nat) (l : List (List UInt8)) (q : Nat) (h : takeTexts s 0 = (l, q, 0)) (hm : m < q) : takeTexts (s.take m) 0 = ([], 0, 10) := by
  have hsp := takeNum_spec s ((0 : Nat) : Int)
  unfold takeTexts at h ⊢
  rw [show (0 : Int) = ((0 : Nat) : Int) from rfl] at h ⊢
  rcases hsp with ⟨h1, h2, h3, h4, h5⟩ | h' | h' | h'
  · have hN : takeNum s ((0 : Nat) : Int) = ((takeNum s ((0 : Nat) : Int)).1, (takeNum s ((0 : Nat) : Int)).2.1, 0) := by
      rw [Prod.ext_iff, Prod.ext_iff]; exact ⟨rfl, rfl, h1⟩
    rw [if_neg (fun hc => hc h1)] at h
    have hc := takeNum_cut s 0 m _ _ hN (by omega)
    rw [hc]
    by_cases hr : (takeNum s ((0 : Nat) : Int)).2.1 ≤ m
    · rw [if_pos hr]
      simp only [ne_eq, not_true_eq_false, if_false]
      rw [takeList_cut s m _ _ _ l q h hr, if_neg (by omega)]
    · rw [if_neg hr]
      simp
  all_goals
    rw [h', if_pos (by simp)] at h
    simp at h
/- what is taken, laid, is the bytes that it was taken from -/
theorem takeNum_form (s : List UInt8) (p n q : Nat) (h : takeNum s (p : Int) = (n, q, 0)) : p < q ∧ q ≤ s.length ∧ n < 18446744073709551616 ∧ s.take q = s.take p ++ num n := by
  have hsp := takeNum_spec s (p : Int)
  rw [h] at hsp
  rcases hsp with ⟨_, h2, h3, h4, h5⟩ | h' | h' | h'
  · simp only at h2 h4 h5
    refine ⟨by omega, h5, h2, ?_⟩
    unfold takeNum at h
    rw [if_pos ⟨by omega, by omega⟩, Int.toNat_natCast] at h
    simp only [Prod.mk.injEq] at h
    obtain ⟨e1, e2, e3⟩ := h
    rw [if_pos e3] at e2
    have ht : take (s.drop p) = (n, (take (s.drop p)).2.1, 0) := by
      rw [Prod.ext_iff, Prod.ext_iff]; exact ⟨e1, rfl, e3⟩
    have hf := take_form _ _ _ ht
    rw [← hf, show q = p + (take (s.drop p)).2.1 from e2.symm, List.take_add]
  all_goals simp at h'
theorem takeText_form (s t : List UInt8) (p q : Nat) (h : takeText s (p : Int) = (t, q, 0)) : p < q ∧ q ≤ s.length ∧ s.take q = s.take p ++ text t := by
  have hsp := takeNum_spec s (p : Int)
  unfold takeText at h
  rcases hsp with ⟨h1, h2, h3, h4, h5⟩ | h' | h' | h'
  · have hN : takeNum s (p : Int) = ((takeNum s (p : Int)).1, (takeNum s (p : Int)).2.1, 0) := by
      rw [Prod.ext_iff, Prod.ext_iff]; exact ⟨rfl, rfl, h1⟩
    have hf := takeNum_form s p _ _ hN
    rw [if_neg (by simp [h1])] at h
    generalize takeNum s (p : Int) = N at *
    obtain ⟨n, r, e⟩ := N
    simp only at *
    split at h
    · simp at h
    · rename_i hb
      simp only [Prod.mk.injEq] at h
      obtain ⟨rfl, rfl, _⟩ := h
      refine ⟨by omega, by omega, ?_⟩
      have hl : ((s.drop r).take n).length = n := by rw [List.length_take, List.length_drop]; omega
      rw [List.take_add, hf.2.2.2, text, hl, List.append_assoc]
  all_goals
    rw [h', if_pos (by simp)] at h
    simp at h
theorem takeList_form (s : List UInt8) (n : Nat) : ∀ (p : Nat) (acc l : List (List UInt8)) (q : Nat), takeList s n p acc = (l, q, 0) → p ≤ s.length →
    ∃ r : List (List UInt8), l = acc ++ r ∧ r.length = n ∧ q ≤ s.length ∧ s.take q = s.take p ++ r.flatMap text := by
  induction n with
  | zero => intro p acc l q h hp; simp [takeList] at h; obtain ⟨rfl, rfl⟩ := h; exact ⟨[], by simp, rfl, hp, by simp⟩
  | succ n ih =>
    intro p acc l q h hp
    rw [takeList] at h
    rcases takeText_spec s (p : Int) with ⟨h3, h4, h5, h6, _⟩ | ⟨h3, h4, h5⟩
    · rw [if_neg (by simp [h3])] at h
      have hT : takeText s (p : Int) = ((takeText s (p : Int)).1, (takeText s (p : Int)).2.1, 0) := by
        rw [Prod.ext_iff, Prod.ext_iff]; exact ⟨rfl, rfl, h3⟩
      have hf := takeText_form s _ p _ hT
      obtain ⟨r, h1, h2, h7, h8⟩ := ih _ _ l q h h6
      refine ⟨(takeText s (p : Int)).1 :: r, by rw [h1]; simp, by simp [h2], h7, ?_⟩
      rw [h8, hf.2.2]; simp
    · rw [if_pos (by omega)] at h
      simp at h; omega
theorem flat_body (r : List (List UInt8)) (L : List ByteArray) (h : L.map (fun s => s.data.toList) = r) : r.flatMap text = body L := by
  subst h
  induction L with
  | nil => rfl
  | cons s L ih => simp only [List.map_cons, List.flatMap_cons, ih, body]
theorem takeTexts_form (s : List UInt8) (l : List (List UInt8)) (q : Nat) (h : takeTexts s 0 = (l, q, 0)) (L : List ByteArray) (hL : L.map (fun s => s.data.toList) = l) :
    1 ≤ q ∧ q ≤ s.length ∧ s.take q = texts L ∧ ∃ a, takeNum s 0 = (l.length, a, 0) ∧ a ≤ s.length ∧ s.take a = num l.length := by
  have hsp := takeNum_spec s ((0 : Nat) : Int)
  unfold takeTexts at h
  rw [show (0 : Int) = ((0 : Nat) : Int) from rfl] at h ⊢
  rcases hsp with ⟨h1, h2, h3, h4, h5⟩ | h' | h' | h'
  · have hN : takeNum s ((0 : Nat) : Int) = ((takeNum s ((0 : Nat) : Int)).1, (takeNum s ((0 : Nat) : Int)).2.1, 0) := by
      rw [Prod.ext_iff, Prod.ext_iff]; exact ⟨rfl, rfl, h1⟩
    have hf := takeNum_form s 0 _ _ hN
    rw [if_neg (fun hc => hc h1)] at h
    generalize takeNum s ((0 : Nat) : Int) = N at *
    obtain ⟨n, a, e⟩ := N
    simp only at *
    obtain ⟨r, e1, e2, e3, e4⟩ := takeList_form s n a [] l q h h5
    have hg := takeList_ge s n a [] l q h
    rw [List.nil_append] at e1
    subst e1
    have hlen : L.length = n := by rw [← e2, ← hL]; simp
    refine ⟨by omega, e3, ?_, a, ?_, h5, ?_⟩
    · rw [e4, hf.2.2.2, texts, flat_body l L hL, hlen]; simp
    · rw [e2, h1]
    · rw [e2, hf.2.2.2]; simp
  all_goals
    rw [h', if_pos (by simp)] at h
    simp at h
theorem takeTexts_err (s : List UInt8) (p : Int) (h : (takeTexts s p).2.2 ≠ 0) : (takeTexts s p).1 = [] ∧ (takeTexts s p).2.1 = 0 := by
  have key : ∀ (n q : Nat) (acc : List (List UInt8)), (takeList s n q acc).2.2 ≠ 0 → (takeList s n q acc).1 = [] ∧ (takeList s n q acc).2.1 = 0 := by
    intro n
    induction n with
    | zero => intro q acc h; simp [takeList] at h
    | succ n ih =>
      intro q acc h
      rw [takeList] at h ⊢
      split
      · simp
      · rename_i hc
        rw [if_neg hc] at h
        exact ih _ _ h
  unfold takeTexts at h ⊢
  split
  · simp
  · rename_i hc
    rw [if_neg hc] at h
    exact key _ _ _ h
end Pk
/- Plain functions that say what package seal reckons: the register's step, sums, and their laws; nothing of the program. -/
namespace Sl

def poly : Nat := 14514072000185962306
def z (r : Nat) : Nat := (r / 2) ^^^ (if r % 2 = 1 then poly else 0)
def zs : Nat → Nat → Nat
  | 0, r => r
  | n + 1, r => zs n (z r)
def crc (r : Nat) (l : List UInt8) : Nat := l.foldl (fun r b => zs 8 (r ^^^ b.toNat)) r
def ones : Nat := 18446744073709551615
def sum (l : List UInt8) : Nat := ones - crc ones l

theorem half_xor (a b : Nat) : (a ^^^ b) / 2 = (a / 2) ^^^ (b / 2) := by
  have := Nat.shiftRight_xor_distrib (i := 1) (a := a) (b := b)
  simpa [Nat.shiftRight_succ] using this
theorem odd_xor (a b : Nat) : (a ^^^ b) % 2 = (a % 2) ^^^ (b % 2) := by
  simpa using Nat.xor_mod_two_pow (n := 1) (a := a) (b := b)
theorem z_xor (a b : Nat) : z (a ^^^ b) = z a ^^^ z b := by
  unfold z
  rw [half_xor, odd_xor]
  rcases Nat.mod_two_eq_zero_or_one a with ha | ha <;> rcases Nat.mod_two_eq_zero_or_one b with hb | hb <;> simp [ha, hb]
  · ac_rfl
  · ac_rfl
  · have : ∀ x y p : Nat, x ^^^ y = x ^^^ p ^^^ (y ^^^ p) := by
      intro x y p
      have e : x ^^^ p ^^^ (y ^^^ p) = x ^^^ y ^^^ (p ^^^ p) := by ac_rfl
      rw [e]; simp
    exact this _ _ _
theorem zs_xor (n : Nat) : ∀ a b, zs n (a ^^^ b) = zs n a ^^^ zs n b := by
  induction n with
  | zero => intro a b; rfl
  | succ n ih => intro a b; rw [zs, zs, zs, z_xor, ih]
theorem z_two (x : Nat) : z (2 * x) = x := by unfold z; simp
theorem zs_pow (n : Nat) : ∀ x, zs n (2 ^ n * x) = x := by
  induction n with
  | zero => intro x; simp [zs]
  | succ n ih =>
    intro x
    have e : 2 ^ (n + 1) * x = 2 * (2 ^ n * x) := by rw [Nat.pow_succ]; ac_rfl
    rw [zs, e, z_two, ih]
theorem zs_succ (n r : Nat) : zs (n + 1) r = z (zs n r) := by
  induction n generalizing r with
  | zero => rfl
  | succ n ih => rw [zs, ih]; rfl
theorem zs_add (m n r : Nat) : zs (m + n) r = zs n (zs m r) := by
  induction n generalizing r with
  | zero => rfl
  | succ n ih => rw [← Nat.add_assoc, zs_succ, ih, zs_succ]
theorem z_zero : z 0 = 0 := by decide
theorem zs_zero (n : Nat) : zs n 0 = 0 := by
  induction n with
  | zero => rfl
  | succ n ih => rw [zs, z_zero, ih]
theorem z_lt (r : Nat) (h : r < 18446744073709551616) : z r < 18446744073709551616 := by
  unfold z
  refine Nat.xor_lt_two_pow (n := 64) (by omega) ?_
  split <;> decide
theorem zs_lt (n r : Nat) (h : r < 18446744073709551616) : zs n r < 18446744073709551616 := by
  induction n generalizing r with
  | zero => exact h
  | succ n ih => exact ih _ (z_lt r h)
theorem crc_lt (l : List UInt8) : ∀ r, r < 18446744073709551616 → crc r l < 18446744073709551616 := by
  induction l with
  | nil => intro r h; exact h
  | cons b l ih =>
    intro r h
    exact ih _ (zs_lt 8 _ (Nat.xor_lt_two_pow (n := 64) h (by have := b.toNat_lt; omega)))
theorem sum_lt (l : List UInt8) : sum l < 18446744073709551616 := by unfold sum ones; omega
theorem crc_append (r : Nat) (a b : List UInt8) : crc r (a ++ b) = crc (crc r a) b := by simp [crc]
theorem crc_snoc (r : Nat) (a : List UInt8) (b : UInt8) : crc r (a ++ [b]) = zs 8 (crc r a ^^^ b.toNat) := by simp [crc]

/- what stands low and what stands high do not meet -/
theorem high_low (i a b : Nat) (h : b < 2 ^ i) : (2 ^ i * a) ^^^ b = 2 ^ i * a + b := by
  apply Nat.eq_of_testBit_eq
  intro j
  rw [Nat.testBit_xor, Nat.testBit_two_pow_mul_add a h, Nat.testBit_two_pow_mul]
  by_cases hj : j < i
  · simp [hj, Nat.not_le.2 hj]
  · have hb : b.testBit j = false := Nat.testBit_lt_two_pow (Nat.lt_of_lt_of_le h (Nat.pow_le_pow_right (by omega) (by omega)))
    simp [hj, hb, Nat.le_of_not_lt hj]

theorem round_about (x : Nat) (h : x < 2 ^ 64) : (2 ^ 64 - 1) ^^^ x = 2 ^ 64 - 1 - x := by
  apply Nat.eq_of_testBit_eq
  intro j
  have e : 2 ^ 64 - 1 - x = 2 ^ 64 - (x + 1) := by omega
  rw [Nat.testBit_xor, e, Nat.testBit_two_pow_sub_succ h, Nat.testBit_two_pow_sub_one]
  by_cases hj : j < 64
  · simp [hj]
  · have hb : x.testBit j = false := Nat.testBit_lt_two_pow (Nat.lt_of_lt_of_le h (Nat.pow_le_pow_right (by omega) (by omega)))
    simp [hj, hb]

/- four steps at once, by a table -/
def table : List Int := [0, 9051005139383707209, 18102010278767414418, 9704381199536204507, 7257036000092981153, 1814259000023245288, 11493583972846619443, 16292555063049989498, 14514072000185962306, 13040162471224305931, 3628518000046490576, 5746791986423309721, 12527462061959317731, 15006518869663149738, 6263731030979658865, 3131865515489829432]
theorem table_len : table.length = 16 := by decide
theorem table_at : ∀ j, j < 16 → table.getD j 0 = ((zs 4 j : Nat) : Int) := by decide +kernel
theorem four (r : Nat) : zs 4 r = (r / 16) ^^^ zs 4 (r % 16) := by
  have e : r = (2 ^ 4 * (r / 16)) ^^^ (r % 16) := by
    rw [high_low 4 (r / 16) (r % 16) (by omega)]; omega
  have := zs_xor 4 (2 ^ 4 * (r / 16)) (r % 16)
  rw [← e, zs_pow] at this
  exact this
theorem eight_four (r : Nat) : zs 8 r = zs 4 (zs 4 r) := zs_add 4 4 r

/- bit by bit -/
theorem z_bit (r b : Nat) (hb : b < 2) : z (r ^^^ b) = (r / 2) ^^^ (if r % 2 ≠ b then poly else 0) := by
  unfold z
  have hb2 : b = 0 ∨ b = 1 := by omega
  rw [half_xor, odd_xor]
  rcases hb2 with rfl | rfl <;> rcases Nat.mod_two_eq_zero_or_one r with h | h <;> simp [h]
theorem low_more (c j : Nat) : c % 2 ^ (j + 1) = (2 ^ j * (c / 2 ^ j % 2)) ^^^ (c % 2 ^ j) := by
  rw [high_low j _ _ (Nat.mod_lt _ (Nat.two_pow_pos j)), Nat.pow_succ, Nat.mod_mul]
  omega
theorem zs_bit (r c j : Nat) : zs (j + 1) (r ^^^ (c % 2 ^ (j + 1))) = z (zs j (r ^^^ (c % 2 ^ j)) ^^^ (c / 2 ^ j % 2)) := by
  rw [low_more, zs_succ]
  have e : r ^^^ (2 ^ j * (c / 2 ^ j % 2) ^^^ c % 2 ^ j) = (r ^^^ c % 2 ^ j) ^^^ (2 ^ j * (c / 2 ^ j % 2)) := by ac_rfl
  rw [e, zs_xor, zs_pow]
end Sl
/- Plain functions that say what package seal lays and opens, and their laws; nothing of the program. -/
namespace Sl

def eightF : Nat → Nat → List UInt8
  | 0, _ => []
  | k + 1, n => UInt8.ofNat (n % 256) :: eightF k (n / 256)
def eight (n : Nat) : List UInt8 := eightF 8 n
theorem eightF_len (k : Nat) : ∀ n, (eightF k n).length = k := by
  induction k with
  | zero => intro n; rfl
  | succ k ih => intro n; simp [eightF, ih]
theorem eight_len (n : Nat) : (eight n).length = 8 := eightF_len 8 n
theorem eightF_get (k : Nat) : ∀ (n i : Nat) (h : i < (eightF k n).length), (eightF k n)[i] = UInt8.ofNat (n / 256 ^ i % 256) := by
  induction k with
  | zero => intro n i h; simp [eightF] at h
  | succ k ih =>
    intro n i h
    cases i with
    | zero => simp [eightF]
    | succ i =>
      simp only [eightF, List.getElem_cons_succ]
      rw [ih]
      have e : n / 256 / 256 ^ i = n / 256 ^ (i + 1) := by rw [Nat.div_div_eq_div_mul, Nat.pow_succ, Nat.mul_comm]
      rw [e]
theorem eight_get (n i : Nat) (h : i < (eight n).length) : (eight n)[i] = UInt8.ofNat (n / 256 ^ i % 256) := eightF_get 8 n i h
theorem eightF_snoc (k n : Nat) : eightF (k + 1) n = eightF k n ++ [UInt8.ofNat (n / 256 ^ k % 256)] := by
  induction k generalizing n with
  | zero => simp [eightF]
  | succ k ih =>
    rw [eightF, ih]
    have e : n / 256 / 256 ^ k = n / 256 ^ (k + 1) := by rw [Nat.div_div_eq_div_mul, Nat.pow_succ, Nat.mul_comm]
    rw [e]; simp [eightF]
theorem eight_inj (a b : Nat) (ha : a < 18446744073709551616) (hb : b < 18446744073709551616) (h : eight a = eight b) : a = b := by
  have key : ∀ k (x y : Nat), x < 256 ^ k → y < 256 ^ k → eightF k x = eightF k y → x = y := by
    intro k
    induction k with
    | zero => intro x y hx hy _; simp at hx hy; omega
    | succ k ih =>
      intro x y hx hy h
      simp only [eightF, List.cons.injEq] at h
      have h1 : x % 256 = y % 256 := by
        have := congrArg UInt8.toNat h.1
        simpa using this
      have h2 := ih (x / 256) (y / 256) (by rw [Nat.pow_succ] at hx; omega) (by rw [Nat.pow_succ] at hy; omega) h.2
      omega
  exact key 8 a b (by simpa using ha) (by simpa using hb) h

/- what stands ahead of the sum, and the frame -/
def front (v : Nat) (b : List UInt8) : List UInt8 := [231, UInt8.ofNat v] ++ Pk.text b
def frame (v : Nat) (b : List UInt8) : List UInt8 := front v b ++ eight (sum (front v b))
theorem front_len (v : Nat) (b : List UInt8) : (front v b).length = 2 + (Pk.num b.length).length + b.length := by simp [front, Pk.text]; omega
theorem frame_len (v : Nat) (b : List UInt8) : (frame v b).length = 2 + (Pk.num b.length).length + b.length + 8 := by simp [frame, front_len, eight_len]
/- sealing: the frame, the error -/
def sealE (v : Int) (b : List UInt8) : List UInt8 × Nat :=
  if 0 ≤ v ∧ v ≤ 255 then (if b.length ≤ 30000 then (frame v.toNat b, 0) else ([], 3)) else ([], 2)

/- the head: 0, or the error -/
def headE (s : List UInt8) (p v : Int) : Nat :=
  if 0 ≤ p ∧ p ≤ s.length ∧ 0 ≤ v ∧ v ≤ 255 then
    match s.drop p.toNat with
    | [] => 10
    | c :: r => if c = 231 then (match r with | [] => 10 | d :: _ => if d.toNat = v.toNat then 0 else 21) else 20
  else 2
/- where the body is: from, to, the error -/
def endsE (s : List UInt8) (p v : Int) : Nat × Nat × Nat :=
  if headE s p v = 0 then
    (if (Pk.takeNum s (p + 2)).2.2 = 0 then
      (if (Pk.takeNum s (p + 2)).1 ≤ 30000 then
        (if (Pk.takeNum s (p + 2)).2.1 + (Pk.takeNum s (p + 2)).1 + 8 ≤ s.length then ((Pk.takeNum s (p + 2)).2.1, (Pk.takeNum s (p + 2)).2.1 + (Pk.takeNum s (p + 2)).1, 0) else (0, 0, 10))
      else (0, 0, 3))
    else (0, 0, (Pk.takeNum s (p + 2)).2.2))
  else (0, 0, headE s p v)
/- opening: the body, the place behind, the error -/
def openE (s : List UInt8) (p v : Int) : List UInt8 × Nat × Nat :=
  if (endsE s p v).2.2 = 0 then
    (if (s.drop (endsE s p v).2.1).take 8 = eight (sum ((s.drop p.toNat).take ((endsE s p v).2.1 - p.toNat))) then
      ((s.drop (endsE s p v).1).take ((endsE s p v).2.1 - (endsE s p v).1), (endsE s p v).2.1 + 8, 0)
    else ([], 0, 22))
  else ([], 0, (endsE s p v).2.2)

theorem head_ok (s : List UInt8) (p v : Int) (h : headE s p v = 0) :
    0 ≤ p ∧ 0 ≤ v ∧ v ≤ 255 ∧ p + 2 ≤ s.length ∧ ∃ r, s.drop p.toNat = 231 :: UInt8.ofNat v.toNat :: r := by
  unfold headE at h
  split at h
  · rename_i hp
    obtain ⟨h1, h2, h3, h4⟩ := hp
    have hl : (s.drop p.toNat).length = s.length - p.toNat := by simp
    split at h
    · cases h
    · rename_i c r e
      split at h
      · rename_i hc
        split at h
        · cases h
        · rename_i d r'
          split at h
          · rename_i hd
            refine ⟨h1, h3, h4, ?_, r', ?_⟩
            · rw [e] at hl; simp at hl; omega
            · rw [e, hc, ← hd]; simp
          · cases h
      · cases h
  · cases h
theorem ends_ok (s : List UInt8) (p v : Int) (f t : Nat) (h : endsE s p v = (f, t, 0)) :
    headE s p v = 0 ∧ ∃ n, Pk.takeNum s (p + 2) = (n, f, 0) ∧ n ≤ 30000 ∧ t = f + n ∧ f + n + 8 ≤ s.length := by
  unfold endsE at h
  split at h
  · rename_i h0
    split at h
    · rename_i h1
      split at h
      · rename_i h2
        split at h
        · rename_i h3
          simp only [Prod.mk.injEq] at h
          obtain ⟨rfl, rfl, _⟩ := h
          exact ⟨h0, _, by rw [← h1], h2, rfl, h3⟩
        · simp at h
      · simp at h
    · rename_i h1; simp at h; exact absurd h.2.2 h1
  · rename_i h0; simp at h; exact absurd h.2.2 h0
theorem ends_le (s : List UInt8) (p v : Int) : (endsE s p v).2.2 = 0 → p.toNat + 2 ≤ (endsE s p v).1 ∧ (endsE s p v).1 ≤ (endsE s p v).2.1 ∧ (endsE s p v).2.1 + 8 ≤ s.length ∧ (endsE s p v).2.1 - (endsE s p v).1 ≤ 30000 := by
  intro h
  obtain ⟨h0, n, h1, h2, h3, h4⟩ := ends_ok s p v (endsE s p v).1 (endsE s p v).2.1 (by rw [← h])
  obtain ⟨a, b, c, d, r, e⟩ := head_ok s p v h0
  have hp : p + 2 = ((p.toNat + 2 : Nat) : Int) := by omega
  rw [hp] at h1
  have := (Pk.takeNum_form _ _ _ _ h1).1
  omega

/- what is opened is sealed as it stood -/
theorem front_at (s : List UInt8) (p v : Int) (f t : Nat) (h : endsE s p v = (f, t, 0)) :
    (s.drop p.toNat).take (t - p.toNat) = front v.toNat ((s.drop f).take (t - f)) ∧ ((s.drop f).take (t - f)).length = t - f ∧ p.toNat + 2 ≤ f ∧ f ≤ t := by
  obtain ⟨h0, n, h1, h2, h3, h4⟩ := ends_ok s p v f t h
  obtain ⟨a, b, c, d, r, e⟩ := head_ok s p v h0
  have hp : p + 2 = ((p.toNat + 2 : Nat) : Int) := by omega
  rw [hp] at h1
  obtain ⟨g1, g2, g3, g4⟩ := Pk.takeNum_form _ _ _ _ h1
  have hn : t - f = n := by omega
  have hlen : ((s.drop f).take (t - f)).length = n := by simp; omega
  refine ⟨?_, by omega, by omega, by omega⟩
  -- s.take f = s.take (p+2) ++ num n
  have hf : (s.drop p.toNat).take (f - p.toNat) = [231, UInt8.ofNat v.toNat] ++ Pk.num n := by
    have e1 : (s.take f).drop p.toNat = (s.drop p.toNat).take (f - p.toNat) := by rw [List.drop_take]
    rw [← e1, g4, List.drop_append_of_le_length (by simp; omega)]
    congr 1
    rw [List.drop_take, e]
    have : p.toNat + 2 - p.toNat = 2 := by omega
    rw [this]; rfl
  have e2 : (s.drop p.toNat).take (t - p.toNat) = (s.drop p.toNat).take (f - p.toNat) ++ ((s.drop p.toNat).drop (f - p.toNat)).take (t - f) := by
    have : t - p.toNat = (f - p.toNat) + (t - f) := by omega
    rw [this, List.take_add]
  rw [e2, hf, List.drop_drop]
  have : p.toNat + (f - p.toNat) = f := by omega
  rw [this]
  simp only [front, Pk.text, hlen, List.append_assoc]

theorem open_head (s : List UInt8) (p v : Int) (k : Nat) (h : headE s p v = k) (hk : k ≠ 0) : openE s p v = ([], 0, k) := by
  have e : endsE s p v = (0, 0, k) := by unfold endsE; rw [if_neg (by rw [h]; exact hk), h]
  unfold openE
  rw [e]; simp [hk]
theorem take_shift (s : List UInt8) (a : Nat) (h : a + 2 ≤ s.length) :
    Pk.takeNum (s.drop a) 2 = ((Pk.takeNum s ((a : Int) + 2)).1, (Pk.takeNum s ((a : Int) + 2)).2.1 - a, (Pk.takeNum s ((a : Int) + 2)).2.2) := by
  have key : ∀ (l : List UInt8) (p : Nat), p ≤ l.length → Pk.takeNum l (p : Int) = ((Pk.take (l.drop p)).1, if (Pk.take (l.drop p)).2.2 = 0 then p + (Pk.take (l.drop p)).2.1 else 0, (Pk.take (l.drop p)).2.2) := by
    intro l p hp
    unfold Pk.takeNum
    rw [if_pos ⟨by omega, by omega⟩]; rfl
  have e1 : ((a : Int) + 2) = ((a + 2 : Nat) : Int) := by omega
  have e2 : (2 : Int) = ((2 : Nat) : Int) := rfl
  have A := key (s.drop a) 2 (by simp; omega)
  have B := key s (a + 2) h
  rw [List.drop_drop] at A
  rw [e1, B]
  rw [e2, A]
  simp only [Prod.mk.injEq, true_and, and_true]
  split <;> omega
theorem open_take (s : List UInt8) (a v : Nat) (hh : headE s a v = 0) (n f e : Nat) (ht : Pk.takeNum s ((a : Int) + 2) = (n, f, e)) :
    openE s a v = if e = 0 then (if n ≤ 30000 then (if f + n + 8 ≤ s.length then
      (if ((frame v (((s.drop a).drop (f - a)).take n)) == (s.drop a).take (f - a + n + 8)) then ((((s.drop a).drop (f - a)).take n), f + n + 8, 0) else ([], 0, 22)) else ([], 0, 10)) else ([], 0, 3)) else ([], 0, e) := by
  have hE : endsE s a v = if e = 0 then (if n ≤ 30000 then (if f + n + 8 ≤ s.length then (f, f + n, 0) else (0, 0, 10)) else (0, 0, 3)) else (0, 0, e) := by
    unfold endsE; rw [if_pos hh, ht]
  by_cases h1 : e = 0
  · rw [if_pos h1] at hE ⊢
    by_cases h2 : n ≤ 30000
    · rw [if_pos h2] at hE ⊢
      by_cases h3 : f + n + 8 ≤ s.length
      · rw [if_pos h3] at hE ⊢
        obtain ⟨g1, g2, g3, g4⟩ := front_at s a v f (f + n) hE
        have e0 : ((a : Nat) : Int).toNat = a := rfl
        have e1 : ((v : Nat) : Int).toNat = v := rfl
        have e2 : f + n - f = n := by omega
        rw [e0, e1, e2] at g1
        rw [e0] at g3
        have e3 : (s.drop a).drop (f - a) = s.drop f := by rw [List.drop_drop]; congr 1; omega
        have e4 : f + n - a = f - a + n := by omega
        have e5 : (s.drop a).take (f - a + n + 8) = (s.drop a).take (f - a + n) ++ (s.drop (f + n)).take 8 := by
          rw [List.take_add, List.drop_drop]; congr 3; omega
        have e6 : (s.drop a).take (f - a + n) = front v ((s.drop f).take n) := by rw [← e4]; exact g1
        unfold openE
        rw [hE]
        simp only [e0, e2, e3, e4, e5, e6, frame]
        by_cases hq : (s.drop (f + n)).take 8 = eight (sum (front v ((s.drop f).take n)))
        · rw [hq]; simp
        · rw [if_pos trivial, if_neg hq, if_neg]
          intro h
          simp only [beq_iff_eq, List.append_cancel_left_eq] at h
          exact hq h.symm
      · rw [if_neg h3] at hE ⊢; unfold openE; rw [hE]; rfl
    · rw [if_neg h2] at hE ⊢; unfold openE; rw [hE]; rfl
  · rw [if_neg h1] at hE ⊢; unfold openE; rw [hE]; simp [h1]
end Sl
/- Plain functions that say what frames stand in bytes, and their laws; nothing of the program. -/
namespace Sl

theorem open_adv (s : List UInt8) (p v : Int) (b : List UInt8) (q : Nat) (h : openE s p v = (b, q, 0)) : 0 ≤ p ∧ p.toNat < q ∧ q ≤ s.length ∧ 0 ≤ v ∧ v ≤ 255 := by
  unfold openE at h
  split at h
  · rename_i h0
    have hl := ends_le s p v h0
    have hd := head_ok s p v (ends_ok s p v _ _ (by rw [← h0])).1
    split at h
    · simp only [Prod.mk.injEq] at h
      omega
    · simp at h
  · rename_i h0; simp at h; exact absurd h.2.2 h0

/- the frames from byte a on: each body, and the place behind it -/
def framesF : Nat → List UInt8 → Nat → Int → List (List UInt8 × Nat)
  | 0, _, _, _ => []
  | f + 1, s, a, v => if a < s.length then (if (openE s a v).2.2 = 0 then ((openE s a v).1, (openE s a v).2.1) :: framesF f s (openE s a v).2.1 v else []) else []
def frames (s : List UInt8) (a : Nat) (v : Int) : List (List UInt8 × Nat) := framesF (s.length - a) s a v
theorem framesF_fuel (f : Nat) : ∀ (g : Nat) (s : List UInt8) (a : Nat) (v : Int), s.length - a ≤ f → s.length - a ≤ g → framesF f s a v = framesF g s a v := by
  induction f with
  | zero =>
    intro g s a v hf hg
    cases g with
    | zero => rfl
    | succ g => rw [framesF, framesF, if_neg (by omega)]
  | succ f ih =>
    intro g s a v hf hg
    cases g with
    | zero => rw [framesF, framesF, if_neg (by omega)]
    | succ g =>
      rw [framesF, framesF]
      by_cases ha : a < s.length
      · rw [if_pos ha, if_pos ha]
        by_cases ho : (openE s a v).2.2 = 0
        · have := open_adv s a v (openE s a v).1 (openE s a v).2.1 (by rw [← ho])
          rw [if_pos ho, if_pos ho, ih g s (openE s a v).2.1 v (by omega) (by omega)]
        · rw [if_neg ho, if_neg ho]
      · rw [if_neg ha, if_neg ha]
theorem frames_end (s : List UInt8) (a : Nat) (v : Int) (h : s.length ≤ a) : frames s a v = [] := by
  unfold frames
  have : s.length - a = 0 := by omega
  rw [this]; rfl
theorem frames_bad (s : List UInt8) (a : Nat) (v : Int) (h : (openE s a v).2.2 ≠ 0) : frames s a v = [] := by
  unfold frames
  cases hn : s.length - a with
  | zero => rfl
  | succ n => rw [framesF, if_neg h]; split <;> rfl
theorem frames_next (s : List UInt8) (a : Nat) (v : Int) (b : List UInt8) (q : Nat) (ha : a < s.length) (h : openE s a v = (b, q, 0)) : frames s a v = (b, q) :: frames s q v := by
  have hq := open_adv s a v b q h
  unfold frames
  obtain ⟨n, hn⟩ : ∃ n, s.length - a = n + 1 := ⟨s.length - a - 1, by omega⟩
  rw [hn, framesF, if_pos ha, h]
  simp only [if_true]
  rw [framesF_fuel n (s.length - q) s q v (by omega) (by omega)]
theorem frames_len (n : Nat) : ∀ (s : List UInt8) (a : Nat) (v : Int), s.length - a ≤ n → (frames s a v).length ≤ s.length - a := by
  induction n with
  | zero => intro s a v h; rw [frames_end s a v (by omega)]; simp
  | succ n ih =>
    intro s a v h
    by_cases ha : a < s.length
    · by_cases ho : (openE s a v).2.2 = 0
      · have hq := open_adv s a v (openE s a v).1 (openE s a v).2.1 (by rw [← ho])
        rw [frames_next s a v _ _ ha (show openE s a v = ((openE s a v).1, (openE s a v).2.1, 0) by rw [← ho])]
        have := ih s (openE s a v).2.1 v (by omega)
        simp only [List.length_cons]; omega
      · rw [frames_bad s a v ho]; simp
    · rw [frames_end s a v (by omega)]; simp
/- where the last of some frames ends -/
def lastEnd (d : Nat) (l : List (List UInt8 × Nat)) : Nat := l.foldl (fun _ x => x.2) d
theorem lastEnd_snoc (d : Nat) (l : List (List UInt8 × Nat)) (x : List UInt8 × Nat) : lastEnd d (l ++ [x]) = x.2 := by simp [lastEnd]
theorem lastEnd_cons (d : Nat) (l : List (List UInt8 × Nat)) (x : List UInt8 × Nat) : lastEnd d (x :: l) = lastEnd x.2 l := rfl
/- cutting: the bodies, the place, the error -/
def cutE (s : List UInt8) (v : Int) : List (List UInt8) × Nat × Nat :=
  ((frames s 0 v).map (·.1), lastEnd 0 (frames s 0 v), if lastEnd 0 (frames s 0 v) = s.length then 0 else (openE s (lastEnd 0 (frames s 0 v)) v).2.2)
theorem lastEnd_le (n : Nat) : ∀ (s : List UInt8) (a : Nat) (v : Int), s.length - a ≤ n → a ≤ s.length → a ≤ lastEnd a (frames s a v) ∧ lastEnd a (frames s a v) ≤ s.length := by
  induction n with
  | zero => intro s a v h h2; rw [frames_end s a v (by omega)]; simp [lastEnd]; omega
  | succ n ih =>
    intro s a v h h2
    by_cases ha : a < s.length
    · by_cases ho : (openE s a v).2.2 = 0
      · have hq := open_adv s a v (openE s a v).1 (openE s a v).2.1 (by rw [← ho])
        rw [frames_next s a v _ _ ha (show openE s a v = ((openE s a v).1, (openE s a v).2.1, 0) by rw [← ho]), lastEnd_cons]
        have := ih s (openE s a v).2.1 v (by omega) (by omega)
        simp only at this ⊢
        omega
      · rw [frames_bad s a v ho]; simp [lastEnd]; omega
    · rw [frames_end s a v (by omega)]; simp [lastEnd]; omega
end Sl
/- Plain laws: frames, one behind the other, are cut again; of a beginning those that stand whole; what is cut is sealed as it stood. -/
namespace Sl

theorem open_parts (s : List UInt8) (p v : Int) (b : List UInt8) (q : Nat) (h : openE s p v = (b, q, 0)) :
    ∃ f t n, endsE s p v = (f, t, 0) ∧ headE s p v = 0 ∧ Pk.takeNum s (p + 2) = (n, f, 0) ∧ n ≤ 30000 ∧ t = f + n ∧ q = t + 8 ∧ q ≤ s.length ∧ p.toNat + 2 ≤ f ∧
      b = (s.drop f).take n ∧ (s.drop t).take 8 = eight (sum ((s.drop p.toNat).take (t - p.toNat))) := by
  unfold openE at h
  split at h
  · rename_i h0
    obtain ⟨h1, n, h2, h3, h4, h5⟩ := ends_ok s p v (endsE s p v).1 (endsE s p v).2.1 (by rw [← h0])
    have hl := ends_le s p v h0
    split at h
    · rename_i hq
      simp only [Prod.mk.injEq] at h
      refine ⟨_, _, n, by rw [← h0], h1, h2, h3, h4, by omega, by omega, by omega, ?_, hq⟩
      rw [← h.1]; congr 1; omega
    · simp at h
  · rename_i h0; simp at h; exact absurd h.2.2 h0

/- what is opened is sealed as it stood -/
theorem open_form (s : List UInt8) (a : Nat) (v : Int) (b : List UInt8) (q : Nat) (h : openE s a v = (b, q, 0)) :
    b.length ≤ 30000 ∧ 0 ≤ v ∧ v ≤ 255 ∧ a < q ∧ q ≤ s.length ∧ (s.drop a).take (q - a) = frame v.toNat b := by
  have had := open_adv _ _ _ _ _ h
  obtain ⟨f, t, n, h1, h2, h3, h4, h5, h6, h7, h8, h9, h10⟩ := open_parts _ _ _ _ _ h
  have e0 : ((a : Nat) : Int).toNat = a := rfl
  rw [e0] at h8 h10
  obtain ⟨g1, g2, g3, g4⟩ := front_at s a v f t h1
  rw [e0] at g1
  have hn : t - f = n := by omega
  rw [hn] at g1 g2
  refine ⟨by rw [h9, g2]; exact h4, had.2.2.2.1, had.2.2.2.2, by omega, h7, ?_⟩
  have e1 : q - a = (t - a) + 8 := by omega
  rw [e1, List.take_add, List.drop_drop]
  have e2 : a + (t - a) = t := by omega
  rw [e2, g1, ← h9, h10, g1, ← h9]; rfl

theorem open_cut (s : List UInt8) (a m : Nat) (v : Int) (b : List UInt8) (q : Nat) (h : openE s a v = (b, q, 0)) (ham : a < m) (hm : m ≤ s.length) :
    openE (s.take m) a v = if q ≤ m then (b, q, 0) else ([], 0, 10) := by
  have had := open_adv _ _ _ _ _ h
  obtain ⟨f, t, n, h1, h2, h3, h4, h5, h6, h7, h8, h9, h10⟩ := open_parts _ _ _ _ _ h
  obtain ⟨k1, k2, k3, k4, r, k5⟩ := head_ok _ _ _ h2
  have e0 : ((a : Nat) : Int).toNat = a := rfl
  rw [e0] at h8 h10 k5
  have hml : (s.take m).length = m := by simp; omega
  have hd : (s.take m).drop a = (231 :: UInt8.ofNat v.toNat :: r).take (m - a) := by rw [List.drop_take, k5]
  by_cases hm1 : m = a + 1
  · have hh : headE (s.take m) a v = 10 := by
      unfold headE
      rw [if_pos ⟨k1, by omega, k2, k3⟩, e0, hd]
      have : m - a = 1 := by omega
      rw [this]; rfl
    rw [open_head _ _ _ _ hh (by decide), if_neg (by omega)]
  · have hh : headE (s.take m) a v = 0 := by
      unfold headE
      rw [if_pos ⟨k1, by omega, k2, k3⟩, e0, hd]
      obtain ⟨j, hj⟩ : ∃ j, m - a = j + 2 := ⟨m - a - 2, by omega⟩
      rw [hj]
      have e8 : (UInt8.ofNat v.toNat).toNat = v.toNat := by simp; omega
      simp only [List.take_succ_cons, if_true, e8]
    have hp : ((a : Int) + 2) = ((a + 2 : Nat) : Int) := by omega
    rw [hp] at h3
    have hc := Pk.takeNum_cut s (a + 2) m n f h3 (by omega)
    rw [← hp] at hc
    by_cases hf : f ≤ m
    · rw [if_pos hf] at hc
      by_cases hq : q ≤ m
      · rw [if_pos hq]
        have hE : endsE (s.take m) a v = (f, t, 0) := by
          unfold endsE
          rw [if_pos hh, hc]
          simp only [if_true]
          rw [if_pos h4, if_pos (by omega), ← h5]
        unfold openE
        rw [hE]
        have d1 : ((s.take m).drop t).take 8 = (s.drop t).take 8 := by rw [List.drop_take, List.take_take]; congr 1; omega
        have d2 : ((s.take m).drop a).take (t - a) = (s.drop a).take (t - a) := by rw [List.drop_take, List.take_take]; congr 1; omega
        have d3 : ((s.take m).drop f).take (t - f) = (s.drop f).take n := by rw [List.drop_take, List.take_take]; congr 1; omega
        simp only [e0, d1, d2, d3, if_true]
        rw [if_pos h10, ← h9, ← h6]
      · rw [if_neg hq]
        have hE : endsE (s.take m) a v = (0, 0, 10) := by
          unfold endsE
          rw [if_pos hh, hc]
          simp only [if_true]
          rw [if_pos h4, if_neg (by omega)]
        unfold openE; rw [hE]; rfl
    · rw [if_neg hf] at hc
      have hE : endsE (s.take m) a v = (0, 0, 10) := by
        unfold endsE
        rw [if_pos hh, hc]; rfl
      rw [if_neg (by omega)]
      unfold openE; rw [hE]; rfl

theorem open_whole (P R b : List UInt8) (v : Nat) (hv : v ≤ 255) (hb : b.length ≤ 30000) :
    openE (P ++ (frame v b ++ R)) P.length v = (b, P.length + (frame v b).length, 0) := by
  have hfl := frame_len v b
  have hS : P ++ (frame v b ++ R) = (P ++ [231, UInt8.ofNat v]) ++ (Pk.num b.length ++ (b ++ (eight (sum (front v b)) ++ R))) := by
    simp [frame, front, Pk.text]
  have hl : (P ++ (frame v b ++ R)).length = P.length + (frame v b).length + R.length := by simp; omega
  have e0 : ((P.length : Nat) : Int).toNat = P.length := rfl
  have e1 : ((v : Nat) : Int).toNat = v := rfl
  have hd : (P ++ (frame v b ++ R)).drop P.length = frame v b ++ R := by simp
  have hh : headE (P ++ (frame v b ++ R)) P.length v = 0 := by
    unfold headE
    rw [if_pos ⟨by omega, by omega, by omega, by omega⟩, e0, hd]
    have e8 : (UInt8.ofNat v).toNat = v := by simp; omega
    simp [frame, front, e8]
  have ht : Pk.takeNum (P ++ (frame v b ++ R)) ((P.length : Int) + 2) = (b.length, P.length + 2 + (Pk.num b.length).length, 0) := by
    have hp : ((P.length : Int) + 2) = (((P ++ [231, UInt8.ofNat v]).length : Nat) : Int) := by simp
    rw [hS, hp, Pk.takeNum_at _ _ _ (by omega)]
    simp
  have hE : endsE (P ++ (frame v b ++ R)) P.length v = (P.length + 2 + (Pk.num b.length).length, P.length + 2 + (Pk.num b.length).length + b.length, 0) := by
    unfold endsE
    rw [if_pos hh, ht]
    simp only [if_true]
    rw [if_pos hb, if_pos (by omega)]
  have hfr := front_len v b
  have d1 : (P ++ (frame v b ++ R)).drop (P.length + 2 + (Pk.num b.length).length + b.length) = eight (sum (front v b)) ++ R := by
    have : P ++ (frame v b ++ R) = (P ++ front v b) ++ (eight (sum (front v b)) ++ R) := by simp [frame]
    rw [this]
    exact List.drop_left' (by simp; omega)
  have d2 : ((P ++ (frame v b ++ R)).drop P.length).take (P.length + 2 + (Pk.num b.length).length + b.length - P.length) = front v b := by
    rw [hd]
    have : frame v b ++ R = front v b ++ (eight (sum (front v b)) ++ R) := by simp [frame]
    rw [this]
    exact List.take_left' (by omega)
  have d3 : ((P ++ (frame v b ++ R)).drop (P.length + 2 + (Pk.num b.length).length)).take (P.length + 2 + (Pk.num b.length).length + b.length - (P.length + 2 + (Pk.num b.length).length)) = b := by
    have : P ++ (frame v b ++ R) = (P ++ [231, UInt8.ofNat v] ++ Pk.num b.length) ++ (b ++ (eight (sum (front v b)) ++ R)) := by simp [frame, front, Pk.text]
    rw [this, List.drop_left' (by simp; omega)]
    exact List.take_left' (by omega)
  unfold openE
  rw [hE]
  simp only [e0, if_true, d1, d2, d3]
  rw [if_pos (List.take_left' (eight_len _))]
  rw [hfl]
  congr 2
  omega

def cat (v : Nat) (l : List (List UInt8)) : List UInt8 := l.flatMap (frame v)
theorem cat_cons (v : Nat) (b : List UInt8) (l : List (List UInt8)) : cat v (b :: l) = frame v b ++ cat v l := by simp [cat]
theorem cat_append (v : Nat) (l m : List (List UInt8)) : cat v (l ++ m) = cat v l ++ cat v m := by simp [cat]
def wholes (v : Nat) : Nat → Nat → List (List UInt8) → List (List UInt8 × Nat)
  | _, _, [] => []
  | a, c, b :: r => if a + (frame v b).length ≤ c then (b, a + (frame v b).length) :: wholes v (a + (frame v b).length) c r else []
theorem frames_wholes (v c : Nat) (hv : v ≤ 255) (l : List (List UInt8)) : ∀ (P : List UInt8), (∀ b ∈ l, b.length ≤ 30000) → P.length ≤ c → c ≤ (P ++ cat v l).length →
    frames ((P ++ cat v l).take c) P.length v = wholes v P.length c l ∧
    (lastEnd P.length (wholes v P.length c l) = c ∨ (openE ((P ++ cat v l).take c) (lastEnd P.length (wholes v P.length c l)) v).2.2 = 10) := by
  induction l with
  | nil =>
    intro P _ h1 h2
    have : P.length = c := by simp [cat] at h2; omega
    exact ⟨frames_end _ _ _ (by simp; omega), Or.inl this⟩
  | cons b r ih =>
    intro P hg h1 h2
    have hl : ((P ++ cat v (b :: r)).take c).length = c := by rw [List.length_take]; omega
    have hf := frame_len v b
    by_cases hc : P.length = c
    · have hw : wholes v P.length c (b :: r) = [] := by rw [wholes, if_neg (by omega)]
      rw [hw]
      exact ⟨frames_end _ _ _ (by omega), Or.inl hc⟩
    · have ho := open_whole P (cat v r) b v hv (hg b (by simp))
      have ho2 := open_cut (P ++ cat v (b :: r)) P.length c v b (P.length + (frame v b).length) (by rw [cat_cons]; exact ho) (by omega) h2
      by_cases hq : P.length + (frame v b).length ≤ c
      · rw [if_pos hq] at ho2
        rw [frames_next _ _ _ _ _ (by omega) ho2, wholes, if_pos hq]
        have e : P ++ cat v (b :: r) = (P ++ frame v b) ++ cat v r := by rw [cat_cons]; simp
        have el : (P ++ frame v b).length = P.length + (frame v b).length := by simp
        have := ih (P ++ frame v b) (fun x hx => hg x (by simp [hx])) (by omega) (by rw [← e]; exact h2)
        rw [← e, el] at this
        rw [this.1]
        exact ⟨rfl, by rw [lastEnd_cons]; exact this.2⟩
      · rw [if_neg hq] at ho2
        have hw : wholes v P.length c (b :: r) = [] := by rw [wholes, if_neg hq]
        rw [hw]
        exact ⟨frames_bad _ _ _ (by rw [ho2]; decide), Or.inr (by show (openE _ P.length v).2.2 = 10; rw [ho2])⟩
theorem wholes_at (v c : Nat) (l : List (List UInt8)) : ∀ (a n : Nat), n ≤ l.length → a + (cat v (l.take n)).length ≤ c ∨ n = 0 → (n = l.length ∨ c < a + (cat v (l.take (n + 1))).length) →
    (wholes v a c l).map (·.1) = l.take n ∧ lastEnd a (wholes v a c l) = a + (cat v (l.take n)).length := by
  induction l with
  | nil =>
    intro a n h1 _ _
    have : n = 0 := by simpa using h1
    subst this
    simp [wholes, lastEnd, cat]
  | cons b r ih =>
    intro a n h1 h2 h3
    cases n with
    | zero =>
      have h4 : c < a + (frame v b).length := by
        rcases h3 with h | h
        · simp at h
        · simpa [cat] using h
      rw [wholes, if_neg (by omega)]
      simp [lastEnd, cat]
    | succ n =>
      have e1 : cat v ((b :: r).take (n + 1)) = frame v b ++ cat v (r.take n) := by rw [List.take_succ_cons, cat_cons]
      have e2 : cat v ((b :: r).take (n + 1 + 1)) = frame v b ++ cat v (r.take (n + 1)) := by rw [List.take_succ_cons, cat_cons]
      rw [e1, List.length_append] at h2
      rw [e2, List.length_append] at h3
      have h5 : a + (frame v b).length ≤ c := by omega
      rw [wholes, if_pos h5, e1, List.length_append, lastEnd_cons]
      have := ih (a + (frame v b).length) n (by simpa using h1) (by omega) (by
        rcases h3 with h | h
        · left; simpa using h
        · right; omega)
      rw [this.2]
      refine ⟨?_, by omega⟩
      simp [this.1]
theorem cut_cat (v c n : Nat) (hv : v ≤ 255) (l : List (List UInt8)) (hg : ∀ b ∈ l, b.length ≤ 30000) (hc : c ≤ (cat v l).length) (h1 : n ≤ l.length) (h2 : (cat v (l.take n)).length ≤ c ∨ n = 0) (h3 : n = l.length ∨ c < (cat v (l.take (n + 1))).length) :
    cutE ((cat v l).take c) v = (l.take n, (cat v (l.take n)).length, if (cat v (l.take n)).length < c then 10 else 0) := by
  obtain ⟨w1, w2⟩ := frames_wholes v c hv l [] hg (by simp) (by simpa using hc)
  obtain ⟨w3, w4⟩ := wholes_at v c l 0 n h1 (by omega) (by omega)
  simp only [List.nil_append, List.length_nil, Nat.zero_add] at w1 w2 w3 w4
  have hl : ((cat v l).take c).length = c := by rw [List.length_take]; omega
  have e0 : ((0 : Nat) : Int) = 0 := rfl
  have hle : (cat v (l.take n)).length ≤ c := by
    rcases h2 with h | h
    · exact h
    · subst h; simp [cat]
  unfold cutE
  rw [hl, w1, w3, w4]
  congr 2
  by_cases hlt : (cat v (l.take n)).length = c
  · rw [if_pos hlt, if_neg (by omega)]
  · rw [if_neg hlt, if_pos (by omega)]
    rw [w4] at w2
    rcases w2 with h | h
    · exact absurd h hlt
    · exact h

/- what is cut is sealed as it stood -/
theorem frames_form (n : Nat) : ∀ (s : List UInt8) (a : Nat) (v : Int), s.length - a ≤ n → a ≤ s.length →
    (∀ x ∈ frames s a v, x.1.length ≤ 30000 ∧ 0 ≤ v ∧ v ≤ 255) ∧ s.take (lastEnd a (frames s a v)) = s.take a ++ cat v.toNat ((frames s a v).map (·.1)) := by
  induction n with
  | zero => intro s a v h h2; rw [frames_end s a v (by omega)]; simp [lastEnd, cat]
  | succ n ih =>
    intro s a v h h2
    by_cases ha : a < s.length
    · by_cases ho : (openE s a v).2.2 = 0
      · obtain ⟨f1, f2, f3, f4, f5, f6⟩ := open_form s a v (openE s a v).1 (openE s a v).2.1 (by rw [← ho])
        rw [frames_next s a v _ _ ha (show openE s a v = ((openE s a v).1, (openE s a v).2.1, 0) by rw [← ho]), lastEnd_cons]
        obtain ⟨i1, i2⟩ := ih s (openE s a v).2.1 v (by omega) (by omega)
        refine ⟨?_, ?_⟩
        · intro x hx
          rcases List.mem_cons.1 hx with rfl | hx
          · exact ⟨f1, f2, f3⟩
          · exact i1 x hx
        · simp only at i2 ⊢
          rw [i2, List.map_cons, cat_cons, ← f6, ← List.append_assoc]
          congr 1
          have : (openE s a v).2.1 = a + ((openE s a v).2.1 - a) := by omega
          rw [this, List.take_add]
          congr 2
          omega
      · rw [frames_bad s a v ho]; simp [lastEnd, cat]
    · rw [frames_end s a v (by omega)]; simp [lastEnd, cat]
end Sl
