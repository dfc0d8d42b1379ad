
/- Plain functions that say what package seal lays and opens, and their laws; nothing of the program. -/
import Derived.Test.YtoeibjflaiiljaaDoorMath7
import Derived.Test.YtoeibjflaiiljaaDoorSumM
namespace Sl

def eightF : Nat → Nat → List UInt8
  | 0, _ => []
  | k + 1, n => UInt8.ofNat (n % 256) :: eightF k (n / 256)
def eight (n : Nat) : List UInt8 := eightF 8 n
theorem eightF_len (k : Nat) : ∀ n, (eightF k n).length = k := by
  induction k with
  | zero => intro n; rfl
  | succ k ih => intro n; simp [eightF, ih]
theorem eight_len (n : Nat) : (eight n).length = 8 := eightF_len 8 n
theorem eightF_get (k : Nat) : ∀ (n i : Nat) (h : i < (eightF k n).length), (eightF k n)[i] = UInt8.ofNat (n / 256 ^ i % 256) := by
  induction k with
  | zero => intro n i h; simp [eightF] at h
  | succ k ih =>
    intro n i h
    cases i with
    | zero => simp [eightF]
    | succ i =>
      simp only [eightF, List.getElem_cons_succ]
      rw [ih]
      have e : n / 256 / 256 ^ i = n / 256 ^ (i + 1) := by rw [Nat.div_div_eq_div_mul, Nat.pow_succ, Nat.mul_comm]
      rw [e]
theorem eight_get (n i : Nat) (h : i < (eight n).length) : (eight n)[i] = UInt8.ofNat (n / 256 ^ i % 256) := eightF_get 8 n i h
theorem eightF_snoc (k n : Nat) : eightF (k + 1) n = eightF k n ++ [UInt8.ofNat (n / 256 ^ k % 256)] := by
  induction k generalizing n with
  | zero => simp [eightF]
  | succ k ih =>
    rw [eightF, ih]
    have e : n / 256 / 256 ^ k = n / 256 ^ (k + 1) := by rw [Nat.div_div_eq_div_mul, Nat.pow_succ, Nat.mul_comm]
    rw [e]; simp [eightF]
theorem eight_inj (a b : Nat) (ha : a < 18446744073709551616) (hb : b < 18446744073709551616) (h : eight a = eight b) : a = b := by
  have key : ∀ k (x y : Nat), x < 256 ^ k → y < 256 ^ k → eightF k x = eightF k y → x = y := by
    intro k
    induction k with
    | zero => intro x y hx hy _; simp at hx hy; omega
    | succ k ih =>
      intro x y hx hy h
      simp only [eightF, List.cons.injEq] at h
      have h1 : x % 256 = y % 256 := by
        have := congrArg UInt8.toNat h.1
        simpa using this
      have h2 := ih (x / 256) (y / 256) (by rw [Nat.pow_succ] at hx; omega) (by rw [Nat.pow_succ] at hy; omega) h.2
      omega
  exact key 8 a b (by simpa using ha) (by simpa using hb) h

/- what stands ahead of the sum, and the frame -/
def front (v : Nat) (b : List UInt8) : List UInt8 := [231, UInt8.ofNat v] ++ Pk.text b
def frame (v : Nat) (b : List UInt8) : List UInt8 := front v b ++ eight (sum (front v b))
theorem front_len (v : Nat) (b : List UInt8) : (front v b).length = 2 + (Pk.num b.length).length + b.length := by simp [front, Pk.text]; omega
theorem frame_len (v : Nat) (b : List UInt8) : (frame v b).length = 2 + (Pk.num b.length).length + b.length + 8 := by simp [frame, front_len, eight_len]
/- sealing: the frame, the error -/
def sealE (v : Int) (b : List UInt8) : List UInt8 × Nat :=
  if 0 ≤ v ∧ v ≤ 255 then (if b.length ≤ 30000 then (frame v.toNat b, 0) else ([], 3)) else ([], 2)

/- the head: 0, or the error -/
def headE (s : List UInt8) (p v : Int) : Nat :=
  if 0 ≤ p ∧ p ≤ s.length ∧ 0 ≤ v ∧ v ≤ 255 then
    match s.drop p.toNat with
    | [] => 10
    | c :: r => if c = 231 then (match r with | [] => 10 | d :: _ => if d.toNat = v.toNat then 0 else 21) else 20
  else 2
/- where the body is: from, to, the error -/
def endsE (s : List UInt8) (p v : Int) : Nat × Nat × Nat :=
  if headE s p v = 0 then
    (if (Pk.takeNum s (p + 2)).2.2 = 0 then
      (if (Pk.takeNum s (p + 2)).1 ≤ 30000 then
        (if (Pk.takeNum s (p + 2)).2.1 + (Pk.takeNum s (p + 2)).1 + 8 ≤ s.length then ((Pk.takeNum s (p + 2)).2.1, (Pk.takeNum s (p + 2)).2.1 + (Pk.takeNum s (p + 2)).1, 0) else (0, 0, 10))
      else (0, 0, 3))
    else (0, 0, (Pk.takeNum s (p + 2)).2.2))
  else (0, 0, headE s p v)
/- opening: the body, the place behind, the error -/
def openE (s : List UInt8) (p v : Int) : List UInt8 × Nat × Nat :=
  if (endsE s p v).2.2 = 0 then
    (if (s.drop (endsE s p v).2.1).take 8 = eight (sum ((s.drop p.toNat).take ((endsE s p v).2.1 - p.toNat))) then
      ((s.drop (endsE s p v).1).take ((endsE s p v).2.1 - (endsE s p v).1), (endsE s p v).2.1 + 8, 0)
    else ([], 0, 22))
  else ([], 0, (endsE s p v).2.2)

theorem head_ok (s : List UInt8) (p v : Int) (h : headE s p v = 0) :
    0 ≤ p ∧ 0 ≤ v ∧ v ≤ 255 ∧ p + 2 ≤ s.length ∧ ∃ r, s.drop p.toNat = 231 :: UInt8.ofNat v.toNat :: r := by
  unfold headE at h
  split at h
  · rename_i hp
    obtain ⟨h1, h2, h3, h4⟩ := hp
    have hl : (s.drop p.toNat).length = s.length - p.toNat := by simp
    split at h
    · cases h
    · rename_i c r e
      split at h
      · rename_i hc
        split at h
        · cases h
        · rename_i d r'
          split at h
          · rename_i hd
            refine ⟨h1, h3, h4, ?_, r', ?_⟩
            · rw [e] at hl; simp at hl; omega
            · rw [e, hc, ← hd]; simp
          · cases h
      · cases h
  · cases h
theorem ends_ok (s : List UInt8) (p v : Int) (f t : Nat) (h : endsE s p v = (f, t, 0)) :
    headE s p v = 0 ∧ ∃ n, Pk.takeNum s (p + 2) = (n, f, 0) ∧ n ≤ 30000 ∧ t = f + n ∧ f + n + 8 ≤ s.length := by
  unfold endsE at h
  split at h
  · rename_i h0
    split at h
    · rename_i h1
      split at h
      · rename_i h2
        split at h
        · rename_i h3
          simp only [Prod.mk.injEq] at h
          obtain ⟨rfl, rfl, _⟩ := h
          exact ⟨h0, _, by rw [← h1], h2, rfl, h3⟩
        · simp at h
      · simp at h
    · rename_i h1; simp at h; exact absurd h.2.2 h1
  · rename_i h0; simp at h; exact absurd h.2.2 h0
theorem ends_le (s : List UInt8) (p v : Int) : (endsE s p v).2.2 = 0 → p.toNat + 2 ≤ (endsE s p v).1 ∧ (endsE s p v).1 ≤ (endsE s p v).2.1 ∧ (endsE s p v).2.1 + 8 ≤ s.length ∧ (endsE s p v).2.1 - (endsE s p v).1 ≤ 30000 := by
  intro h
  obtain ⟨h0, n, h1, h2, h3, h4⟩ := ends_ok s p v (endsE s p v).1 (endsE s p v).2.1 (by rw [← h])
  obtain ⟨a, b, c, d, r, e⟩ := head_ok s p v h0
  have hp : p + 2 = ((p.toNat + 2 : Nat) : Int) := by omega
  rw [hp] at h1
  have := (Pk.takeNum_form _ _ _ _ h1).1
  omega

/- what is opened is sealed as it stood -/
theorem front_at (s : List UInt8) (p v : Int) (f t : Nat) (h : endsE s p v = (f, t, 0)) :
    (s.drop p.toNat).take (t - p.toNat) = front v.toNat ((s.drop f).take (t - f)) ∧ ((s.drop f).take (t - f)).length = t - f ∧ p.toNat + 2 ≤ f ∧ f ≤ t := by
  obtain ⟨h0, n, h1, h2, h3, h4⟩ := ends_ok s p v f t h
  obtain ⟨a, b, c, d, r, e⟩ := head_ok s p v h0
  have hp : p + 2 = ((p.toNat + 2 : Nat) : Int) := by omega
  rw [hp] at h1
  obtain ⟨g1, g2, g3, g4⟩ := Pk.takeNum_form _ _ _ _ h1
  have hn : t - f = n := by omega
  have hlen : ((s.drop f).take (t - f)).length = n := by simp; omega
  refine ⟨?_, by omega, by omega, by omega⟩
  -- s.take f = s.take (p+2) ++ num n
  have hf : (s.drop p.toNat).take (f - p.toNat) = [231, UInt8.ofNat v.toNat] ++ Pk.num n := by
    have e1 : (s.take f).drop p.toNat = (s.drop p.toNat).take (f - p.toNat) := by rw [List.drop_take]
    rw [← e1, g4, List.drop_append_of_le_length (by simp; omega)]
    congr 1
    rw [List.drop_take, e]
    have : p.toNat + 2 - p.toNat = 2 := by omega
    rw [this]; rfl
  have e2 : (s.drop p.toNat).take (t - p.toNat) = (s.drop p.toNat).take (f - p.toNat) ++ ((s.drop p.toNat).drop (f - p.toNat)).take (t - f) := by
    have : t - p.toNat = (f - p.toNat) + (t - f) := by omega
    rw [this, List.take_add]
  rw [e2, hf, List.drop_drop]
  have : p.toNat + (f - p.toNat) = f := by omega
  rw [this]
  simp only [front, Pk.text, hlen, List.append_assoc]

theorem open_head (s : List UInt8) (p v : Int) (k : Nat) (h : headE s p v = k) (hk : k ≠ 0) : openE s p v = ([], 0, k) := by
  have e : endsE s p v = (0, 0, k) := by unfold endsE; rw [if_neg (by rw [h]; exact hk), h]
  unfold openE
  rw [e]; simp [hk]
theorem take_shift (s : List UInt8) (a : Nat) (h : a + 2 ≤ s.length) :
    Pk.takeNum (s.drop a) 2 = ((Pk.takeNum s ((a : Int) + 2)).1, (Pk.takeNum s ((a : Int) + 2)).2.1 - a, (Pk.takeNum s ((a : Int) + 2)).2.2) := by
  have key : ∀ (l : List UInt8) (p : Nat), p ≤ l.length → Pk.takeNum l (p : Int) = ((Pk.take (l.drop p)).1, if (Pk.take (l.drop p)).2.2 = 0 then p + (Pk.take (l.drop p)).2.1 else 0, (Pk.take (l.drop p)).2.2) := by
    intro l p hp
    unfold Pk.takeNum
    rw [if_pos ⟨by omega, by omega⟩]; rfl
  have e1 : ((a : Int) + 2) = ((a + 2 : Nat) : Int) := by omega
  have e2 : (2 : Int) = ((2 : Nat) : Int) := rfl
  have A := key (s.drop a) 2 (by simp; omega)
  have B := key s (a + 2) h
  rw [List.drop_drop] at A
  rw [e1, B]
  rw [e2, A]
  simp only [Prod.mk.injEq, true_and, and_true]
  split <;> omega
theorem open_take (s : List UInt8) (a v : Nat) (hh : headE s a v = 0) (n f e : Nat) (ht : Pk.takeNum s ((a : Int) + 2) = (n, f, e)) :
    openE s a v = if e = 0 then (if n ≤ 30000 then (if f + n + 8 ≤ s.length then
      (if ((frame v (((s.drop a).drop (f - a)).take n)) == (s.drop a).take (f - a + n + 8)) then ((((s.drop a).drop (f - a)).take n), f + n + 8, 0) else ([], 0, 22)) else ([], 0, 10)) else ([], 0, 3)) else ([], 0, e) := by
  have hE : endsE s a v = if e = 0 then (if n ≤ 30000 then (if f + n + 8 ≤ s.length then (f, f + n, 0) else (0, 0, 10)) else (0, 0, 3)) else (0, 0, e) := by
    unfold endsE; rw [if_pos hh, ht]
  by_cases h1 : e = 0
  · rw [if_pos h1] at hE ⊢
    by_cases h2 : n ≤ 30000
    · rw [if_pos h2] at hE ⊢
      by_cases h3 : f + n + 8 ≤ s.length
      · rw [if_pos h3] at hE ⊢
        obtain ⟨g1, g2, g3, g4⟩ := front_at s a v f (f + n) hE
        have e0 : ((a : Nat) : Int).toNat = a := rfl
        have e1 : ((v : Nat) : Int).toNat = v := rfl
        have e2 : f + n - f = n := by omega
        rw [e0, e1, e2] at g1
        rw [e0] at g3
        have e3 : (s.drop a).drop (f - a) = s.drop f := by rw [List.drop_drop]; congr 1; omega
        have e4 : f + n - a = f - a + n := by omega
        have e5 : (s.drop a).take (f - a + n + 8) = (s.drop a).take (f - a + n) ++ (s.drop (f + n)).take 8 := by
          rw [List.take_add, List.drop_drop]; congr 3; omega
        have e6 : (s.drop a).take (f - a + n) = front v ((s.drop f).take n) := by rw [← e4]; exact g1
        unfold openE
        rw [hE]
        simp only [e0, e2, e3, e4, e5, e6, frame]
        by_cases hq : (s.drop (f + n)).take 8 = eight (sum (front v ((s.drop f).take n)))
        · rw [hq]; simp
        · rw [if_pos trivial, if_neg hq, if_neg]
          intro h
          simp only [beq_iff_eq, List.append_cancel_left_eq] at h
          exact hq h.symm
      · rw [if_neg h3] at hE ⊢; unfold openE; rw [hE]; rfl
    · rw [if_neg h2] at hE ⊢; unfold openE; rw [hE]; rfl
  · rw [if_neg h1] at hE ⊢; unfold openE; rw [hE]; simp [h1]
end Sl
