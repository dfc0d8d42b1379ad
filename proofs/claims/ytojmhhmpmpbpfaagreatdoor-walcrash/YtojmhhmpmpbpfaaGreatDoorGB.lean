/- Parts of these proofs, laid together. -/
import Derived.Test.YtojmhhmpmpbpfaaGreatDoorGA
import Derived.Deep.RegionHeld3
namespace Pk

theorem takeF_last (f i a x : Nat) (r : List UInt8) (g : Nat) (hx : x < 128) (hf : f + i = 10) (ht : a + x * 128 ^ i < 18446744073709551616) (hi : i = 0 ∨ x ≠ 0) :
    takeF f i a (numF g x ++ r) = (a + x * 128 ^ i, i + (numF g x).length, 0) := by
  have hi9 : i ≤ 9 := by
    rcases Nat.lt_or_ge i 10 with h | h
    · omega
    · have h1 : 128 ^ 10 ≤ 128 ^ i := Nat.pow_le_pow_right (by omega) h
      have h2 := Nat.mul_le_mul (show 1 ≤ x by omega) h1
      omega
  obtain ⟨f, rfl⟩ : ∃ k, f = k + 1 := ⟨f - 1, by omega⟩
  have hb : (UInt8.ofNat x).toNat = x := by simp; omega
  rw [numF_lt g x hx, List.cons_append, takeF, hb, if_neg (by omega), if_neg]
  · simp
  · rintro (⟨h9, h1⟩ | ⟨h0, h1⟩)
    · subst h9
      have h2 := Nat.mul_le_mul_right (128 ^ 9) (show 2 ≤ x by omega)
      omega
    · omega
/- what was laid is taken again, whatever is behind -/
theorem takeF_numF (g : Nat) : ∀ (f i a x : Nat) (r : List UInt8), x < 128 ^ (g + 1) → f + i = 10 → a < 128 ^ i → a + x * 128 ^ i < 18446744073709551616 → (i = 0 ∨ x ≠ 0) →
    takeF f i a (numF g x ++ r) = (a + x * 128 ^ i, i + (numF g x).length, 0) := by
  induction g with
  | zero =>
    intro f i a x r hx hf ha ht hi
    have hx1 : x < 128 := by simpa using hx
    exact takeF_last f i a x r 0 hx1 hf ht hi
  | succ g ih =>
    intro f i a x r hx hf ha ht hi
    by_cases hlt : x < 128
    · exact takeF_last f i a x r (g + 1) hlt hf ht hi
    · have hi9 : i ≤ 9 := by
        rcases Nat.lt_or_ge i 10 with h | h
        · omega
        · have h1 : 128 ^ 10 ≤ 128 ^ i := Nat.pow_le_pow_right (by omega) h
          have h2 := Nat.mul_le_mul (show 1 ≤ x by omega) h1
          omega
      obtain ⟨f, rfl⟩ : ∃ k, f = k + 1 := ⟨f - 1, by omega⟩
      have hb : (UInt8.ofNat (x % 128 + 128)).toNat = x % 128 + 128 := by simp; omega
      have hm : (x % 128 + 128) % 128 = x % 128 := by omega
      rw [numF_ge g x hlt, List.cons_append, takeF, hb, if_pos (by omega), hm]
      have e : a + x % 128 * 128 ^ i + x / 128 * 128 ^ (i + 1) = a + x * 128 ^ i := by
        have : x * 128 ^ i = (x / 128 * 128 + x % 128) * 128 ^ i := by congr 1; omega
        rw [this, Nat.pow_succ, Nat.add_mul, Nat.mul_assoc (x / 128), Nat.mul_comm 128 (128 ^ i)]
        omega
      have hp : a + x % 128 * 128 ^ i < 128 ^ (i + 1) := by
        have h1 := Nat.mul_le_mul_right (128 ^ i) (show x % 128 ≤ 127 by omega)
        rw [Nat.pow_succ]; omega
      rw [ih f (i + 1) _ (x / 128) r (by rw [Nat.pow_succ] at hx; omega) (by omega) hp (by rw [e]; exact ht) (Or.inr (by omega)), e]
      simp; omega
theorem take_num (n : Nat) (r : List UInt8) (h : n < 18446744073709551616) : take (num n ++ r) = (n, (num n).length, 0) := by
  have := takeF_numF 9 10 0 0 n r (by omega) rfl (by simp) (by simpa using h) (Or.inl rfl)
  simpa [take, num] using this
/- a greater number has no shorter form -/
theorem numF_mono (f : Nat) : ∀ (x y : Nat), x ≤ y → (numF f x).length ≤ (numF f y).length := by
  induction f with
  | zero => intro x y _; simp [numF]
  | succ f ih =>
    intro x y h
    by_cases hx : x < 128
    · rw [numF_lt _ x hx]; exact (numF_len (f + 1) y).1
    · rw [numF_ge f x hx, numF_ge f y (by omega)]
      have := ih (x / 128) (y / 128) (by omega)
      simp; omega
theorem num_mono (x y : Nat) (h : x ≤ y) : (num x).length ≤ (num y).length := numF_mono 9 x y h
/- forms of unlike numbers do not begin with each other -/
theorem num_prefix (a b : Nat) (ha : a < 18446744073709551616) (hb : b < 18446744073709551616) (e : num a = (num b).take (num a).length) : a = b := by
  have hs : num b = num a ++ (num b).drop (num a).length := by
    have := (List.take_append_drop (num a).length (num b)).symm
    rwa [← e] at this
  have h1 := take_num b [] hb
  rw [List.append_nil, hs, take_num a _ ha] at h1
  exact (Prod.mk.injEq _ _ _ _ ▸ h1).1
theorem num_inj_min (a b : Nat) (ha : a < 18446744073709551616) (hb : b < 18446744073709551616) (h : (num a).take (min (num a).length (num b).length) = (num b).take (min (num a).length (num b).length)) : a = b := by
  rcases Nat.le_total (num a).length (num b).length with hl | hl
  · rw [Nat.min_eq_left hl, List.take_length] at h
    exact num_prefix a b ha hb h
  · rw [Nat.min_eq_right hl, List.take_length] at h
    exact (num_prefix b a hb ha h.symm).symm


end Pk
namespace Pk

theorem takeF_form1 (i a : Nat) (b : UInt8) (r : List UInt8) (v q g : Nat) (hb : b.toNat < 128)
    (h : (if (i = 9 ∧ 1 < b.toNat) ∨ (i ≠ 0 ∧ b.toNat = 0) then ((0, 0, 11) : Nat × Nat × Nat) else (a + b.toNat * 128 ^ i, i + 1, 0)) = (v, q, 0)) :
    ∃ x, v = a + x * 128 ^ i ∧ i < q ∧ (b :: r).take (q - i) = numF g x ∧ (i ≠ 0 → x ≠ 0) := by
  split at h
  · simp at h
  · rename_i hl
    simp only [Prod.mk.injEq, and_true] at h
    obtain ⟨rfl, rfl⟩ := h
    refine ⟨b.toNat, rfl, by omega, ?_, by omega⟩
    rw [numF_lt g _ hb, show i + 1 - i = 0 + 1 from by omega, List.take_succ_cons]
    simp
theorem takeF_form (f : Nat) : ∀ (i a : Nat) (l : List UInt8) (v q : Nat), takeF (f + 1) i a l = (v, q, 0) →
    ∃ x, v = a + x * 128 ^ i ∧ i < q ∧ l.take (q - i) = numF f x ∧ (i ≠ 0 → x ≠ 0) := by
  induction f with
  | zero =>
    intro i a l v q h
    cases l with
    | nil => simp [takeF] at h
    | cons b r =>
      rw [takeF] at h
      split at h
      · simp [takeF] at h
      · exact takeF_form1 i a b r v q 0 (by omega) h
  | succ f ih =>
    intro i a l v q h
    cases l with
    | nil => simp [takeF] at h
    | cons b r =>
      rw [takeF] at h
      split at h
      · rename_i hge
        obtain ⟨y, hv, hq, ht, hy⟩ := ih (i + 1) _ r v q h
        have hy0 := hy (by omega)
        have hb : b.toNat < 256 := b.toNat_lt
        refine ⟨b.toNat % 128 + 128 * y, ?_, by omega, ?_, by omega⟩
        · rw [hv, Nat.pow_succ, Nat.add_mul, Nat.mul_comm (128 ^ i) 128, ← Nat.mul_assoc, Nat.mul_comm y 128]
          omega
        · rw [numF_ge f _ (by omega)]
          have e1 : (b.toNat % 128 + 128 * y) % 128 + 128 = b.toNat := by omega
          have e2 : (b.toNat % 128 + 128 * y) / 128 = y := by omega
          have e3 : q - i = (q - (i + 1)) + 1 := by omega
          rw [e1, e2, e3, List.take_succ_cons, ht]
          simp
      · exact takeF_form1 i a b r v q (f + 1) (by omega) h
theorem take_form (l : List UInt8) (v q : Nat) (h : take l = (v, q, 0)) : l.take q = num v := by
  obtain ⟨x, hv, _, ht, _⟩ := takeF_form 9 0 0 l v q h
  simp at hv ht
  rw [hv]; exact ht

def val : List UInt8 → Nat
  | [] => 0
  | b :: r => b.toNat % 128 + 128 * val r
theorem val_snoc (l : List UInt8) (b : UInt8) : val (l ++ [b]) = val l + b.toNat % 128 * 128 ^ l.length := by
  induction l with
  | nil => simp [val]
  | cons c r ih =>
    simp only [List.cons_append, val, ih, List.length_cons, Nat.pow_succ, Nat.mul_add]
    have : 128 * (b.toNat % 128 * 128 ^ r.length) = b.toNat % 128 * (128 ^ r.length * 128) := by
      rw [Nat.mul_left_comm, Nat.mul_comm 128 (128 ^ r.length)]
    omega
theorem val_lt (l : List UInt8) : val l < 128 ^ l.length := by
  induction l with
  | nil => simp [val]
  | cons b r ih => simp only [val, List.length_cons, Nat.pow_succ]; omega
theorem val_drop (l : List UInt8) : ∀ j, 128 ^ j * val (l.drop j) ≤ val l := by
  induction l with
  | nil => intro j; simp [val]
  | cons b r ih =>
    intro j
    cases j with
    | zero => simp
    | succ j =>
      have := ih j
      simp only [List.drop_succ_cons, val, Nat.pow_succ]
      have e : 128 ^ j * 128 * val (r.drop j) = 128 * (128 ^ j * val (r.drop j)) := by rw [Nat.mul_comm (128 ^ j) 128, Nat.mul_assoc]
      omega

/- how the run of bytes that are 128 or more ends -/
theorem take_run (l : List UInt8) : ∀ j, j ≤ 10 → (∀ i (h : i < l.length), i < j → 128 ≤ l[i].toNat) → j ≤ l.length →
    take l = takeF (10 - j) j (val (l.take j)) (l.drop j) := by
  intro j
  induction j with
  | zero => intro _ _ _; simp [take, val]
  | succ j ih =>
    intro hj hall hl
    have hjl : j < l.length := by omega
    rw [ih (by omega) (fun i h hi => hall i h (by omega)) (by omega), List.drop_eq_getElem_cons hjl, show 10 - j = (10 - (j + 1)) + 1 from by omega, takeF, if_pos (hall j hjl (by omega)),
      List.take_succ_eq_append_getElem hjl, val_snoc, List.length_take, Nat.min_eq_left (by omega)]
theorem take_ten (l : List UInt8) (h : ∀ i (h : i < l.length), i < 10 → 128 ≤ l[i].toNat) (hl : 10 ≤ l.length) : take l = (0, 0, 11) := by
  rw [take_run l 10 (by omega) h hl]; simp [takeF]
theorem take_short (l : List UInt8) (h : ∀ i (h : i < l.length), 128 ≤ l[i].toNat) (hl : l.length < 10) : take l = (0, 0, 10) := by
  rw [take_run l l.length (by omega) (fun i hi _ => h i hi) (by omega), List.drop_length]
  rw [show 10 - l.length = (9 - l.length) + 1 from by omega, takeF]
theorem take_end (l : List UInt8) (j : Nat) (hj : j < l.length) (hj9 : j ≤ 9) (h : ∀ i (h : i < l.length), i < j → 128 ≤ l[i].toNat) (hb : l[j].toNat < 128) :
    take l = if (j = 9 ∧ 1 < l[j].toNat) ∨ (j ≠ 0 ∧ l[j].toNat = 0) then (0, 0, 11) else (val (l.take (j + 1)), j + 1, 0) := by
  rw [take_run l j (by omega) h (by omega), List.drop_eq_getElem_cons hj, show 10 - j = (9 - j) + 1 from by omega, takeF, if_neg (by omega),
    List.take_succ_eq_append_getElem hj, val_snoc, List.length_take, Nat.min_eq_left (by omega), Nat.mod_eq_of_lt hb]
theorem val_small (l : List UInt8) (j : Nat) (hj : j < l.length) (hj9 : j ≤ 9) (hb : l[j].toNat < 128) :
    val (l.take (j + 1)) < 18446744073709551616 ↔ ¬ (j = 9 ∧ 1 < l[j].toNat) := by
  have hv := val_lt (l.take j)
  rw [List.length_take, Nat.min_eq_left (by omega)] at hv
  rw [List.take_succ_eq_append_getElem hj, val_snoc, List.length_take, Nat.min_eq_left (by omega), Nat.mod_eq_of_lt hb]
  by_cases h9 : j = 9
  · subst h9
    simp only [true_and]
    constructor
    · intro h1 h2
      have := Nat.mul_le_mul_right (128 ^ 9) (show 2 ≤ l[9].toNat by omega)
      omega
    · intro h1
      have := Nat.mul_le_mul_right (128 ^ 9) (show l[9].toNat ≤ 1 by omega)
      omega
  · simp only [h9, false_and, not_false_iff, iff_true]
    have h1 := Nat.mul_le_mul_right (128 ^ j) (show l[j].toNat ≤ 127 by omega)
    have h2 : 128 ^ (j + 1) ≤ 128 ^ 9 := Nat.pow_le_pow_right (by omega) (by omega)
    rw [Nat.pow_succ] at h2
    omega
theorem val_form (l : List UInt8) (j : Nat) (hj : j < l.length) (hj9 : j ≤ 9) (h : ∀ i (h : i < l.length), i < j → 128 ≤ l[i].toNat) (hb : l[j].toNat < 128) (hv : ¬ (j = 9 ∧ 1 < l[j].toNat)) :
    num (val (l.take (j + 1))) = l.take (j + 1) ↔ ¬ (j ≠ 0 ∧ l[j].toNat = 0) := by
  have ht := take_end l j hj hj9 h hb
  constructor
  · intro e hz
    rw [if_pos (Or.inr hz)] at ht
    have h1 := take_num (val (l.take (j + 1))) (l.drop (j + 1)) ((val_small l j hj hj9 hb).2 hv)
    rw [e, List.take_append_drop, ht] at h1
    simp at h1
  · intro hz
    rw [if_neg (by omega)] at ht
    exact (take_form l _ _ ht).symm
end Pk
namespace Pk
def takeText (s : List UInt8) (p : Int) : List UInt8 × Nat × Nat :=
  if (takeNum s p).2.2 ≠ 0 then ([], 0, (takeNum s p).2.2)
  else if s.length - (takeNum s p).2.1 < (takeNum s p).1 then ([], 0, 10)
  else ((s.drop (takeNum s p).2.1).take (takeNum s p).1, (takeNum s p).2.1 + (takeNum s p).1, 0)
end Pk
namespace Pk
def smallF : Nat → List ByteArray → Bool
  | _, [] => true
  | n, s :: r => if 50000 < n + (min s.size 100000 + 10) then false else smallF (n + (min s.size 100000 + 10)) r
def small (l : List ByteArray) : Bool := smallF 0 l
theorem smallF_sum (l : List ByteArray) : ∀ n, n ≤ 50000 → smallF n l = true → n + (body l).length ≤ 50000 ∧ n + l.length * 10 ≤ 50000 ∧ ∀ s ∈ l, s.size ≤ 50000 := by
  induction l with
  | nil => intro n hn _; simp [body, hn]
  | cons s r ih =>
    intro n hn h
    rw [smallF] at h
    split at h
    · cases h
    · rename_i hle
      have := ih _ (by omega) h
      obtain ⟨h1, h2, h3⟩ := this
      have hsz : s.data.toList.length = s.size := by simp
      have hb : (body (s :: r)).length = (text s.data.toList).length + (body r).length := by simp [body]
      have ht : (text s.data.toList).length = (num s.size).length + s.size := by rw [text, List.length_append, hsz]
      have hl := num_len s.size
      refine ⟨by omega, by simp; omega, ?_⟩
      intro x hx
      rcases List.mem_cons.1 hx with rfl | hx
      · omega
      · exact h3 x hx
theorem small_sum (l : List ByteArray) (h : small l = true) : (texts l).length ≤ 50010 ∧ l.length ≤ 5000 ∧ ∀ s ∈ l, s.size ≤ 50000 := by
  obtain ⟨h1, h2, h3⟩ := smallF_sum l 0 (by omega) h
  have := num_len l.length
  refine ⟨?_, by omega, h3⟩
  rw [texts, List.length_append]; omega
end Pk
namespace Pk
def takeList (s : List UInt8) : Nat → Nat → List (List UInt8) → List (List UInt8) × Nat × Nat
  | 0, p, acc => (acc, p, 0)
  | n + 1, p, acc => if (takeText s p).2.2 ≠ 0 then ([], 0, (takeText s p).2.2) else takeList s n (takeText s p).2.1 (acc ++ [(takeText s p).1])
def takeTexts (s : List UInt8) (p : Int) : List (List UInt8) × Nat × Nat :=
  if (takeNum s p).2.2 ≠ 0 then ([], 0, (takeNum s p).2.2) else takeList s (takeNum s p).1 (takeNum s p).2.1 []
theorem takeText_spec (s : List UInt8) (p : Int) :
    ((takeText s p).2.2 = 0 ∧ 0 ≤ p ∧ p < (takeText s p).2.1 ∧ (takeText s p).2.1 ≤ s.length ∧ (takeText s p).1.length ≤ s.length) ∨
    ((takeText s p).1 = [] ∧ (takeText s p).2.1 = 0 ∧ ((takeText s p).2.2 = 2 ∨ (takeText s p).2.2 = 10 ∨ (takeText s p).2.2 = 11)) := by
  unfold takeText
  rcases takeNum_spec s p with ⟨h1, h2, h3, h4, h5⟩ | h | h | h
  · rw [if_neg (by simp [h1])]
    by_cases hb : s.length - (takeNum s p).2.1 < (takeNum s p).1
    · rw [if_pos hb]; right; simp
    · rw [if_neg hb]
      left
      refine ⟨rfl, h3, ?_, ?_, ?_⟩
      · show p < (((takeNum s p).2.1 + (takeNum s p).1 : Nat) : Int); omega
      · show (takeNum s p).2.1 + (takeNum s p).1 ≤ s.length; omega
      · show ((s.drop (takeNum s p).2.1).take (takeNum s p).1).length ≤ s.length
        rw [List.length_take, List.length_drop]; omega
  all_goals
    rw [if_pos (by rw [h]; simp)]
    right; rw [h]; simp
theorem takeList_len (s : List UInt8) (n : Nat) : ∀ (p : Nat) (acc : List (List UInt8)), acc.length ≤ p → p ≤ s.length →
    (takeList s n p acc).1.length ≤ s.length := by
  induction n with
  | zero => intro p acc h1 h2; simp only [takeList]; omega
  | succ n ih =>
    intro p acc h1 h2
    rw [takeList]
    rcases takeText_spec s (p : Int) with ⟨h3, h4, h5, h6, _⟩ | ⟨h3, h4, h5⟩
    · rw [if_neg (by simp [h3])]
      exact ih _ _ (by simp; omega) h6
    · rw [if_pos (by omega)]; simp
theorem takeTexts_len (s : List UInt8) (p : Int) : (takeTexts s p).1.length ≤ s.length := by
  unfold takeTexts
  rcases takeNum_spec s p with ⟨h1, h2, h3, h4, h5⟩ | h | h | h
  · rw [if_neg (by simp [h1])]
    exact takeList_len s _ _ [] (by simp) h5
  all_goals
    rw [if_pos (by rw [h]; simp)]; simp
end Pk
namespace Go.Proofs.YtojmhhmpmpbpfaaGreatDoor
open Go.RowKit

theorem Gr.set {a b : World} (h : Gr a b) (p : Addr) (hp : a.heap.size ≤ p.block) (v : Value) : Gr a (b.setCell p v) := ⟨h.below.setCell hp v⟩
theorem Gr.keepF {W w1 : World} (g : Gr W w1) {p : Addr} (hb : p.block < W.heap.size) (h : W.frozen? p = false) : w1.frozen? p = false := (g.below.frozen hb).trans h

/- a struct of three cells in memory that may be written -/
structure BoxAt (w : World) (g : Nat) (a b c : Value) : Prop where
  c0 : w.cell? ⟨g, 0, none⟩ = some a
  c1 : w.cell? ⟨g, 1, none⟩ = some b
  c2 : w.cell? ⟨g, 2, none⟩ = some c
  f0 : w.frozen? ⟨g, 0, none⟩ = false
  f1 : w.frozen? ⟨g, 1, none⟩ = false
  f2 : w.frozen? ⟨g, 2, none⟩ = false
  lt : g < w.heap.size
theorem BoxAt.gr {w w' : World} {g : Nat} {a b c : Value} (h : BoxAt w g a b c) (k : Gr w w') : BoxAt w' g a b c :=
  ⟨k.keep h.c0, k.keep h.c1, k.keep h.c2, k.keepF h.lt h.f0, k.keepF h.lt h.f1, k.keepF h.lt h.f2, Nat.lt_of_lt_of_le h.lt k.size⟩
theorem BoxAt.new (w : World) (a b c : Value) (t : TypeId) (g : Nat) (hg : g = w.heap.size) : BoxAt (w.alloc (.cells #[a, b, c] t)) g a b c := by
  subst hg
  exact ⟨by simp, by simp, by simp, by simp [go_sem], by simp [go_sem], by simp [go_sem], by simp⟩
theorem BoxAt.set3 {w : World} {g : Nat} {a b c : Value} (h : BoxAt w g a b c) (x y z : Value) :
    BoxAt (((w.setCell ⟨g, 0, none⟩ x).setCell ⟨g, 1, none⟩ y).setCell ⟨g, 2, none⟩ z) g x y z := by
  obtain ⟨h0, h1, h2, f0, f1, f2, hl⟩ := h
  exact ⟨by simp [go_sem, *], by simp [go_sem, *], by simp [go_sem, *], by simp [go_sem, *], by simp [go_sem, *], by simp [go_sem, *], by simpa using hl⟩

/- a struct of three cells that may be written, whatever it holds -/
def RoomAt (w : World) (g : Nat) : Prop := ∃ a b c, BoxAt w g a b c
theorem RoomAt.gr {w w' : World} {g : Nat} (h : RoomAt w g) (k : Gr w w') : RoomAt w' g := by
  obtain ⟨a, b, c, h⟩ := h
  exact ⟨a, b, c, h.gr k⟩
theorem RoomAt.drew {w : World} {g : Nat} (h : RoomAt w g) : RoomAt w.drew g := h.gr (Gr.refl _).drew
theorem RoomAt.new (w : World) (a b c : Value) (t : TypeId) (g : Nat) (hg : g = w.heap.size) : RoomAt (w.alloc (.cells #[a, b, c] t)) g := ⟨a, b, c, BoxAt.new w a b c t g hg⟩
theorem RoomAt.set3 {w : World} {g : Nat} (h : RoomAt w g) (x y z : Value) : RoomAt (((w.setCell ⟨g, 0, none⟩ x).setCell ⟨g, 1, none⟩ y).setCell ⟨g, 2, none⟩ z) g := by
  obtain ⟨a, b, c, h⟩ := h
  exact ⟨x, y, z, h.set3 x y z⟩
end Go.Proofs.YtojmhhmpmpbpfaaGreatDoor
namespace Go.Proofs.YtojmhhmpmpbpfaaGreatDoor
open Go.RowKit

theorem step_append_own {P : Program} {w : World} {ops : Array Oper} {o : Oper} {a : Act} {K : Act → World → Prop} {Q : Exit → Act → World → Prop} {E : Prop} (hgd : o.guard = none) (s x : Operand) (t : TypeId)
    (ho : o.op = .call { callee := .builtin .append, args := #[s, x], argTypes := #[t, t] })
    (base : Nat) (e : TypeId) (i : TypeInfo) (z : Value) (size bytes : Nat) (ht : P.underlying t = some (.slice e)) (hi : P.info? e = some i) (hz : i.zero = some z)
    (hsize : i.size = size) (hby : i.bytes = bytes) (hzs : z.cells.size = size) (hsz : 0 < size)
    (v : Value) (n : Nat) (xs : List Value) (hs : a.eval s = v) (hown : w.ownsRow base e size v n xs)
    (ad : Addr) (m c : Nat) (news : List Value) (hx : a.eval x = .slice (some ad) m c) (hl : news.length = m * size) (hnews : ∀ j u, news[j]? = some u → w.cell? (ad.add j) = some u) (h1 : ∀ u ∈ news, u.oneCell' = true)
    (h63 : n + m ≤ maxLen) (hbytes : (n + m) * bytes ≤ 140737488355328) (hbase : base ≤ w.heap.size)
    (h : ∀ v' w', w'.ownsRow base e size v' (n + m) (xs ++ news) → w.grownBy w' v.ownBlock → (v' = .slice none 0 0 ↔ v = .slice none 0 0 ∧ m = 0) → K (a.put o.dst v') w') :
    if Region.wanted o (yielded ops a.tmps) = true then Oper.wp P o a w K Q else E := by
  have hw : Region.wanted o (yielded ops a.tmps) = true := by simp [Region.wanted, hgd]
  rw [if_pos hw]
  exact wp_append_own w s x t ho base e i z size bytes ht hi hz hsize hby hzs hsz v n xs hs hown ad m c news hx hl hnews h1 h63 hbytes hbase h

theorem own_low {w : World} {base base' : Nat} {e : TypeId} {size n : Nat} {v : Value} {xs : List Value} (h : w.ownsRow base e size v n xs) (hb : base' ≤ base) : w.ownsRow base' e size v n xs := by
  obtain ⟨h1, ⟨rfl, h2⟩ | ⟨g, cap, cur, rfl, h3, h4⟩⟩ := h
  · exact ⟨h1, Or.inl ⟨rfl, h2⟩⟩
  · exact ⟨h1, Or.inr ⟨g, cap, cur, rfl, Nat.le_trans hb h3, h4⟩⟩
theorem Gr.grown {a b c : World} (h : Gr a b) {r : Option Nat} (k : b.grownBy c r) (hr : ∀ g, r = some g → a.heap.size ≤ g) : Gr a c := ⟨h.below.grown k h.below.size hr⟩
theorem hold8 {a b : World} (g : Gr a b) {q0 q1 q2 q3 r0 r1 r2 r3 : Addr} {v0 v1 v2 v3 u0 u1 u2 u3 : Value} (h0 : a.cell? q0 = some v0) (h1 : a.cell? q1 = some v1) (h2 : a.cell? q2 = some v2) (h3 : a.cell? q3 = some v3) (k0 : a.cell? r0 = some u0) (k1 : a.cell? r1 = some u1) (k2 : a.cell? r2 = some u2) (k3 : a.cell? r3 = some u3) :
    Gr a b ∧ b.cell? q0 = some v0 ∧ b.cell? q1 = some v1 ∧ b.cell? q2 = some v2 ∧ b.cell? q3 = some v3 ∧ b.cell? r0 = some u0 ∧ b.cell? r1 = some u1 ∧ b.cell? r2 = some u2 ∧ b.cell? r3 = some u3 := ⟨g, g.keep h0, g.keep h1, g.keep h2, g.keep h3, g.keep k0, g.keep k1, g.keep k2, g.keep k3⟩
end Go.Proofs.YtojmhhmpmpbpfaaGreatDoor
namespace Go.Proofs.YtojmhhmpmpbpfaaGreatDoor
open Go.RowKit

/- a row of structs in memory, cell by cell, its address whatever where there is none -/
def RowAt {α : Type} (f : α → List Value) (w : World) (ad : Option Addr) (L : List α) : Prop :=
  ∀ j u, (L.flatMap f)[j]? = some u → ∃ b off, ad = some ⟨b, off, none⟩ ∧ b < w.heap.size ∧ w.cell? ⟨b, off + j, none⟩ = some u
theorem flat_len {α : Type} {f : α → List Value} {c : Nat} (hc : ∀ x, (f x).length = c) (L : List α) : (L.flatMap f).length = L.length * c := by
  induction L with
  | nil => simp
  | cons x t ih => rw [List.flatMap_cons, List.length_append, ih, hc, List.length_cons, Nat.add_mul]; omega
theorem flat_get {α : Type} {f : α → List Value} {c : Nat} (hc : ∀ x, (f x).length = c) (L : List α) : ∀ j (h : j < L.length) i, i < c → (L.flatMap f)[j * c + i]? = (f L[j])[i]? := by
  induction L with
  | nil => intro j h; simp at h
  | cons x t ih =>
    intro j h i hi
    rw [List.flatMap_cons]
    cases j with
    | zero => rw [Nat.zero_mul, Nat.zero_add, List.getElem?_append_left (by rw [hc]; exact hi)]; rfl
    | succ j =>
      rw [Nat.add_mul, Nat.one_mul, List.getElem?_append_right (by rw [hc]; omega), hc, show j * c + c + i - c = j * c + i by omega, ih j (by simpa using h) i hi]; rfl
theorem RowAt.gr {α : Type} {f : α → List Value} {w w' : World} {ad : Option Addr} {L : List α} (h : RowAt f w ad L) (g : Gr w w') : RowAt f w' ad L := by
  intro j u hu
  obtain ⟨b, off, e, hb, h1⟩ := h j u hu
  exact ⟨b, off, e, Nat.lt_of_lt_of_le hb g.size, g.keep h1⟩
theorem RowAt.alloc {α : Type} {f : α → List Value} {w : World} {ad : Option Addr} {L : List α} (h : RowAt f w ad L) {o : Obj} : RowAt f (w.alloc o) ad L := h.gr (Gr.refl _).alloc
theorem RowAt.drew {α : Type} {f : α → List Value} {w : World} {ad : Option Addr} {L : List α} (h : RowAt f w ad L) : RowAt f w.drew ad L := h.gr (Gr.refl _).drew
theorem RowAt.nil {α : Type} {f : α → List Value} {w : World} {ad : Option Addr} : RowAt f w ad [] := fun j u h => by simp at h
theorem RowAt.setFar {α : Type} {f : α → List Value} {w : World} {ad : Option Addr} {L : List α} (h : RowAt f w ad L) (p : Addr) (v : Value) (hp : ∀ a, ad = some a → p.block ≠ a.block) : RowAt f (w.setCell p v) ad L := by
  intro j u hu
  obtain ⟨b, off, e, hb, h1⟩ := h j u hu
  exact ⟨b, off, e, by simpa using hb, by rw [World.cell?_setCell_far _ _ _ _ (by simpa using hp _ e)]; exact h1⟩
theorem RowAt.news {α : Type} {f : α → List Value} {w : World} {a : Addr} {L : List α} (h : RowAt f w (some a) L) : ∀ j u, (L.flatMap f)[j]? = some u → w.cell? (a.add j) = some u := by
  intro j u hu
  obtain ⟨b, off, e, _, h1⟩ := h j u hu
  cases e
  rw [Addr.add_lit]; exact h1
theorem RowAt.none {α : Type} {f : α → List Value} {c : Nat} (hc : ∀ x, (f x).length = c) (h0 : 0 < c) {w : World} {L : List α} (h : RowAt f w none L) : L = [] := by
  cases L with
  | nil => rfl
  | cons x t =>
    have hl := flat_len hc (x :: t)
    have : 0 < ((x :: t).flatMap f).length := by rw [hl, List.length_cons]; exact Nat.mul_pos (by omega) h0
    obtain ⟨b, off, e, _⟩ := h 0 _ (List.getElem?_eq_getElem this)
    cases e
/- a row that the call owns -/
theorem own_row {α : Type} {f : α → List Value} {c : Nat} {base : Nat} {t : TypeId} {v : Value} {L : List α} {w : World} (h : w.ownsRow base t c v L.length (L.flatMap f)) :
    ∃ ad cap, v = .slice ad L.length cap ∧ L.length ≤ cap ∧ cap ≤ 9223372036854775807 ∧ RowAt f w ad L ∧ (∀ a, ad = some a → base ≤ a.block) ∧ (ad = none → cap = 0) := by
  have hcell := fun g (hg : v.ownBlock = some g) => h.cells hg
  have hlt := h.lt
  obtain ⟨_, ⟨rfl, h0⟩ | ⟨g, cap, cur, rfl, hx⟩⟩ := h
  · have : L = [] := List.length_eq_zero_iff.1 h0
    subst this
    exact ⟨none, 0, rfl, by simp, by omega, RowAt.nil, (fun a e => by cases e), fun _ => rfl⟩
  · have hm : cap ≤ 9223372036854775807 := by have := hx.2.2.2.1; unfold maxLen at this; omega
    refine ⟨some ⟨g, 0, none⟩, cap, rfl, hx.2.2.1, hm, ?_, (fun a e => by cases e; exact (hlt g rfl).1), fun e => by cases e⟩
    intro j u hu
    have c1 := hcell g rfl _ _ hu
    rw [Addr.add_lit] at c1
    exact ⟨g, 0, rfl, (hlt g rfl).2, c1⟩

end Go.Proofs.YtojmhhmpmpbpfaaGreatDoor
namespace Go.Proofs.YtojmhhmpmpbpfaaGreatDoor
variable {P : Program} {md : Region.Mode} {ops : Array Oper} {Q : Exit → Act → World → Prop} {S : World → Prop}

theorem take_yes (i d : Nat) {oi : Oper} {v : Value} {fuel : Nat} {listed : Array Bool} {a : Act} {w : World} (hi : ops[i]? = some oi) (hd : oi.dst = some d)
    (hs : Region.noSelect ops = true) (hf : Region.free md ops listed i = true) (hr : (Region.ready md ops listed).contains i = true)
    (hQ : ∀ c a w, Q (.panic c) (a.put (some d) v) w → Q (.panic c) a w) (hw : Region.wanted oi (yielded ops a.tmps) = true) (hy : ∀ w, S w → (execOp a.eval oi).run P w = .ok (.value v) w) (hS : S w)
    (h : wpAnyH P md ops Q S fuel (listed.setIfInBounds i true) (a.put (some d) v) w) : wpAnyH P md ops Q S (fuel + 1) listed a w := by
  rw [← hd] at hQ h
  exact wpAnyH_take hi hs hf hr hQ (Or.inl ⟨hw, hy⟩) hS h
theorem take_not (i d : Nat) {oi : Oper} {fuel : Nat} {listed : Array Bool} {a : Act} {w : World} (hi : ops[i]? = some oi) (hd : oi.dst = some d)
    (hs : Region.noSelect ops = true) (hf : Region.free md ops listed i = true) (hr : (Region.ready md ops listed).contains i = true)
    (hQ : ∀ c a w, Q (.panic c) (a.put (some d) undef) w → Q (.panic c) a w) (hw : Region.wanted oi (yielded ops a.tmps) = false) (hS : S w)
    (h : wpAnyH P md ops Q S fuel (listed.setIfInBounds i true) (a.put (some d) undef) w) : wpAnyH P md ops Q S (fuel + 1) listed a w := by
  rw [← hd] at hQ h
  exact wpAnyH_take hi hs hf hr hQ (Or.inr ⟨hw, rfl⟩) hS h
/- the same in few words -/
theorem ty (i d : Nat) {oi : Oper} {v : Value} {fuel : Nat} {listed : Array Bool} {a a' : Act} {w : World} (hS : S w) (h : wpAnyH P md ops Q S fuel (listed.setIfInBounds i true) a' w)
    (hi : ops[i]? = some oi := by rfl) (hd : oi.dst = some d := by rfl) (hs : Region.noSelect ops = true := by kernel_rfl) (hf : Region.free md ops listed i = true := by kernel_rfl) (hr : (Region.ready md ops listed).contains i = true := by kernel_rfl)
    (hQ : ∀ c a w, Q (.panic c) (a.put (some d) v) w → Q (.panic c) a w := by exact fun _ _ _ h => h) (hw : Region.wanted oi (yielded ops a.tmps) = true := by rfl)
    (hy : ∀ w, S w → (execOp a.eval oi).run P w = .ok (.value v) w := by (intro w hSw; (try dsimp only at hSw); go_simp; try with_reducible rfl))
    (ha : a.put (some d) v = a' := by (simp only [Act.put, List.setIfInBounds_toArray, List.set_cons_zero, List.set_cons_succ]; rfl)) : wpAnyH P md ops Q S (fuel + 1) listed a w := by
  subst ha
  exact take_yes i d hi hd hs hf hr hQ hw hy hS h
theorem tn (i d : Nat) {oi : Oper} {fuel : Nat} {listed : Array Bool} {a a' : Act} {w : World} (hS : S w) (h : wpAnyH P md ops Q S fuel (listed.setIfInBounds i true) a' w)
    (hi : ops[i]? = some oi := by rfl) (hd : oi.dst = some d := by rfl) (hs : Region.noSelect ops = true := by kernel_rfl) (hf : Region.free md ops listed i = true := by kernel_rfl) (hr : (Region.ready md ops listed).contains i = true := by kernel_rfl)
    (hQ : ∀ c a w, Q (.panic c) (a.put (some d) undef) w → Q (.panic c) a w := by exact fun _ _ _ h => h) (hw : Region.wanted oi (yielded ops a.tmps) = false := by rfl)
    (ha : a.put (some d) undef = a' := by (simp only [Act.put, List.setIfInBounds_toArray, List.set_cons_zero, List.set_cons_succ]; rfl)) : wpAnyH P md ops Q S (fuel + 1) listed a w := by
  subst ha
  exact take_not i d hi hd hs hf hr hQ hw hS h
end Go.Proofs.YtojmhhmpmpbpfaaGreatDoor
