/- Parts of these proofs, laid together. -/
import Derived.Test.YtojmhhmpmpbpfaaGreatDoorGB
import Derived.Test.YtojmhhmpmpbpfaaGreatDoorGA
namespace Pk

theorem takeNum_at (A R : List UInt8) (n : Nat) (h : n < 18446744073709551616) : takeNum (A ++ (num n ++ R)) (A.length : Int) = (n, A.length + (num n).length, 0) := by
  unfold takeNum
  rw [if_pos ⟨by omega, by simp; omega⟩, Int.toNat_natCast, List.drop_left, take_num n R h]
  simp
theorem takeText_at (A R t : List UInt8) (h : t.length < 18446744073709551616) : takeText (A ++ (text t ++ R)) (A.length : Int) = (t, A.length + (text t).length, 0) := by
  have e : A ++ (text t ++ R) = A ++ (num t.length ++ (t ++ R)) := by simp [text]
  unfold takeText
  rw [e, takeNum_at A (t ++ R) t.length h]
  simp only [ne_eq, not_true_eq_false, if_false]
  rw [if_neg (by simp; omega)]
  have e2 : A ++ (num t.length ++ (t ++ R)) = (A ++ num t.length) ++ (t ++ R) := by simp
  rw [e2, show A.length + (num t.length).length = (A ++ num t.length).length by simp, List.drop_left]
  simp [text]; omega
theorem takeList_at (L : List ByteArray) : ∀ (A R : List UInt8) (acc : List (List UInt8)), (∀ s ∈ L, s.size < 18446744073709551616) →
    takeList (A ++ (body L ++ R)) L.length A.length acc = (acc ++ L.map (fun s => s.data.toList), A.length + (body L).length, 0) := by
  induction L with
  | nil => intro A R acc _; simp [takeList, body]
  | cons s L ih =>
    intro A R acc h
    have e : A ++ (body (s :: L) ++ R) = A ++ (text s.data.toList ++ (body L ++ R)) := by simp [body]
    have hs : s.data.toList.length < 18446744073709551616 := by
      have := h s (by simp)
      simpa using this
    rw [List.length_cons, takeList, e, takeText_at A (body L ++ R) s.data.toList hs]
    simp only [ne_eq, not_true_eq_false, if_false]
    have e2 : A ++ (text s.data.toList ++ (body L ++ R)) = (A ++ text s.data.toList) ++ (body L ++ R) := by simp
    rw [e2, show A.length + (text s.data.toList).length = (A ++ text s.data.toList).length by simp, ih _ R _ (fun x hx => h x (by simp [hx]))]
    simp [body]; omega
theorem takeTexts_at (A R : List UInt8) (L : List ByteArray) (hn : L.length < 18446744073709551616) (h : ∀ s ∈ L, s.size < 18446744073709551616) :
    takeTexts (A ++ (texts L ++ R)) (A.length : Int) = (L.map (fun s => s.data.toList), A.length + (texts L).length, 0) := by
  have e : A ++ (texts L ++ R) = A ++ (num L.length ++ (body L ++ R)) := by simp [texts]
  unfold takeTexts
  rw [e, takeNum_at A _ L.length hn]
  simp only [ne_eq, not_true_eq_false, if_false]
  have e2 : A ++ (num L.length ++ (body L ++ R)) = (A ++ num L.length) ++ (body L ++ R) := by simp
  rw [e2, show A.length + (num L.length).length = (A ++ num L.length).length by simp, takeList_at L _ R [] h]
  simp [texts]; omega
theorem unsg_sgn (m : Int) : unsg (sgn m) = m := by
  unfold unsg sgn
  split <;> split <;> omega

/- a beginning of what is taken is not taken -/
theorem takeF_cut (f : Nat) : ∀ (i a : Nat) (l : List UInt8) (m v q : Nat), takeF f i a l = (v, q, 0) → i < q ∧ takeF f i a (l.take m) = if q - i ≤ m then (v, q, 0) else (0, 0, 10) := by
  induction f with
  | zero => intro i a l m v q h; simp [takeF] at h
  | succ f ih =>
    intro i a l m v q h
    cases l with
    | nil => simp [takeF] at h
    | cons b r =>
      rw [takeF] at h
      cases m with
      | zero =>
        have hq : i < q := by
          split at h
          · have := (ih _ _ r 0 v q h).1; omega
          · split at h
            · simp at h
            · simp at h; omega
        refine ⟨hq, ?_⟩
        rw [List.take_zero, takeF, if_neg (by omega)]
      | succ m =>
        rw [List.take_succ_cons, takeF]
        split at h
        · rename_i hge
          rw [if_pos hge]
          have := ih _ _ r m v q h
          refine ⟨by omega, ?_⟩
          rw [this.2]
          by_cases hc : q - (i + 1) ≤ m
          · rw [if_pos hc, if_pos (by omega)]
          · rw [if_neg hc, if_neg (by omega)]
        · rename_i hge
          rw [if_neg hge]
          split at h
          · simp at h
          · rename_i hl
            rw [if_neg hl]
            simp at h
            obtain ⟨h1, h2⟩ := h
            refine ⟨by omega, ?_⟩
            rw [if_pos (by omega), h1, h2]
theorem takeNum_cut (s : List UInt8) (p m n q : Nat) (h : takeNum s (p : Int) = (n, q, 0)) (hpm : p ≤ m) : takeNum (s.take m) (p : Int) = if q ≤ m then (n, q, 0) else (0, 0, 10) := by
  rcases Nat.lt_or_ge s.length m with hm | hm
  · rw [List.take_of_length_le (by omega), h]
    rcases takeNum_spec s (p : Int) with ⟨_, _, _, _, h5⟩ | h' | h' | h'
    · rw [h] at h5
      rw [if_pos (by simp at h5; omega)]
    all_goals rw [h] at h'; simp at h'
  · unfold takeNum at h ⊢
    by_cases hp : (0 : Int) ≤ p ∧ (p : Int) ≤ s.length
    · rw [if_pos hp, Int.toNat_natCast] at h
      rw [if_pos ⟨by omega, by rw [List.length_take]; omega⟩, Int.toNat_natCast]
      simp only [Prod.mk.injEq] at h
      obtain ⟨h1, h2, h3⟩ := h
      rw [if_pos h3] at h2
      have ht : take (s.drop p) = (n, (take (s.drop p)).2.1, 0) := by
        rw [Prod.ext_iff, Prod.ext_iff]; exact ⟨h1, rfl, h3⟩
      have hd : (s.take m).drop p = (s.drop p).take (m - p) := by rw [List.drop_take]
      have hc := (takeF_cut 10 0 0 (s.drop p) (m - p) n _ ht).2
      rw [hd]
      have hc' : take ((s.drop p).take (m - p)) = if (take (s.drop p)).2.1 - 0 ≤ m - p then (n, (take (s.drop p)).2.1, 0) else (0, 0, 10) := hc
      rw [hc']
      by_cases hq : q ≤ m
      · rw [if_pos hq, if_pos (by omega)]; simp; omega
      · rw [if_neg hq, if_neg (by omega)]; simp
    · rw [if_neg hp] at h; simp at h
theorem takeText_cut (s t : List UInt8) (p m q : Nat) (h : takeText s (p : Int) = (t, q, 0)) (hpm : p ≤ m) : takeText (s.take m) (p : Int) = if q ≤ m then (t, q, 0) else ([], 0, 10) := by
  have hsp := takeNum_spec s (p : Int)
  unfold takeText at h ⊢
  rcases hsp with ⟨h1, h2, h3, h4, h5⟩ | h' | h' | h'
  · have hN : takeNum s (p : Int) = ((takeNum s (p : Int)).1, (takeNum s (p : Int)).2.1, 0) := by
      rw [Prod.ext_iff, Prod.ext_iff]; exact ⟨rfl, rfl, h1⟩
    rw [if_neg (by simp [h1])] at h
    have hc := takeNum_cut s p m _ _ hN hpm
    generalize takeNum s (p : Int) = N at *
    obtain ⟨n, r, e⟩ := N
    simp only at *
    split at h
    · simp at h
    · rename_i hb
      simp only [Prod.mk.injEq] at h
      obtain ⟨rfl, rfl, _⟩ := h
      rw [hc]
      by_cases hr : r ≤ m
      · rw [if_pos hr]
        simp only [ne_eq, not_true_eq_false, if_false]
        by_cases hq : r + n ≤ m
        · rw [if_pos hq, if_neg (by rw [List.length_take]; omega), List.drop_take, List.take_take, Nat.min_eq_left (by omega)]
        · rw [if_neg hq, if_pos (by rw [List.length_take]; omega)]
      · rw [if_neg hr, if_pos (show ((0, 0, 10) : Nat × Nat × Nat).2.2 ≠ 0 by decide), if_neg (show ¬ r + n ≤ m by omega)]
  all_goals
    rw [h', if_pos (by simp)] at h
    simp at h
theorem takeList_ge (s : List UInt8) (n : Nat) : ∀ (p : Nat) (acc l : List (List UInt8)) (q : Nat), takeList s n p acc = (l, q, 0) → p ≤ q ∧ (0 < n → p < q) ∧ l.length = acc.length + n ∧ q ≤ max p s.length := by
  induction n with
  | zero => intro p acc l q h; simp [takeList] at h; obtain ⟨rfl, rfl⟩ := h; simp; omega
  | succ n ih =>
    intro p acc l q h
    rw [takeList] at h
    rcases takeText_spec s (p : Int) with ⟨h3, h4, h5, h6, _⟩ | ⟨h3, h4, h5⟩
    · rw [if_neg (by simp [h3])] at h
      have := ih _ _ l q h
      simp at this
      omega
    · rw [if_pos (by omega)] at h
      simp at h; omega
theorem takeList_cut (s : List UInt8) (m n : Nat) : ∀ (p : Nat) (acc l : List (List UInt8)) (q : Nat), takeList s n p acc = (l, q, 0) → p ≤ m →
    takeList (s.take m) n p acc = if q ≤ m then (l, q, 0) else ([], 0, 10) := by
  induction n with
  | zero => intro p acc l q h hp; simp [takeList] at h ⊢; obtain ⟨rfl, rfl⟩ := h; rw [if_pos hp]
  | succ n ih =>
    intro p acc l q h hp
    rw [takeList] at h ⊢
    rcases takeText_spec s (p : Int) with ⟨h3, h4, h5, h6, _⟩ | ⟨h3, h4, h5⟩
    · rw [if_neg (by simp [h3])] at h
      have hT : takeText s (p : Int) = ((takeText s (p : Int)).1, (takeText s (p : Int)).2.1, 0) := by
        rw [Prod.ext_iff, Prod.ext_iff]; exact ⟨rfl, rfl, h3⟩
      have hc := takeText_cut s _ p m _ hT hp
      rw [hc]
      by_cases hr : (takeText s (p : Int)).2.1 ≤ m
      · rw [if_pos hr]
        simp only [ne_eq, not_true_eq_false, if_false]
        exact ih _ _ l q h hr
      · have := (takeList_ge s n _ _ l q h).1
        rw [if_neg hr, if_pos (show (([], 0, 10) : List UInt8 × Nat × Nat).2.2 ≠ 0 by decide), if_neg (show ¬ q ≤ m by omega)]
    · rw [if_pos (by omega)] at h
      simp at h; omega
theorem takeTexts_cut (s : List UInt8) (m : Nat) (l : List (List UInt8)) (q : Nat) (h : takeTexts s 0 = (l, q, 0)) (hm : m < q) : takeTexts (s.take m) 0 = ([], 0, 10) := by
  have hsp := takeNum_spec s ((0 : Nat) : Int)
  unfold takeTexts at h ⊢
  rw [show (0 : Int) = ((0 : Nat) : Int) from rfl] at h ⊢
  rcases hsp with ⟨h1, h2, h3, h4, h5⟩ | h' | h' | h'
  · have hN : takeNum s ((0 : Nat) : Int) = ((takeNum s ((0 : Nat) : Int)).1, (takeNum s ((0 : Nat) : Int)).2.1, 0) := by
      rw [Prod.ext_iff, Prod.ext_iff]; exact ⟨rfl, rfl, h1⟩
    rw [if_neg (fun hc => hc h1)] at h
    have hc := takeNum_cut s 0 m _ _ hN (by omega)
    rw [hc]
    by_cases hr : (takeNum s ((0 : Nat) : Int)).2.1 ≤ m
    · rw [if_pos hr]
      simp only [ne_eq, not_true_eq_false, if_false]
      rw [takeList_cut s m _ _ _ l q h hr, if_neg (by omega)]
    · rw [if_neg hr]
      simp
  all_goals
    rw [h', if_pos (by simp)] at h
    simp at h
/- what is taken, laid, is the bytes that it was taken from -/
theorem takeNum_form (s : List UInt8) (p n q : Nat) (h : takeNum s (p : Int) = (n, q, 0)) : p < q ∧ q ≤ s.length ∧ n < 18446744073709551616 ∧ s.take q = s.take p ++ num n := by
  have hsp := takeNum_spec s (p : Int)
  rw [h] at hsp
  rcases hsp with ⟨_, h2, h3, h4, h5⟩ | h' | h' | h'
  · simp only at h2 h4 h5
    refine ⟨by omega, h5, h2, ?_⟩
    unfold takeNum at h
    rw [if_pos ⟨by omega, by omega⟩, Int.toNat_natCast] at h
    simp only [Prod.mk.injEq] at h
    obtain ⟨e1, e2, e3⟩ := h
    rw [if_pos e3] at e2
    have ht : take (s.drop p) = (n, (take (s.drop p)).2.1, 0) := by
      rw [Prod.ext_iff, Prod.ext_iff]; exact ⟨e1, rfl, e3⟩
    have hf := take_form _ _ _ ht
    rw [← hf, show q = p + (take (s.drop p)).2.1 from e2.symm, List.take_add]
  all_goals simp at h'
theorem takeText_form (s t : List UInt8) (p q : Nat) (h : takeText s (p : Int) = (t, q, 0)) : p < q ∧ q ≤ s.length ∧ s.take q = s.take p ++ text t := by
  have hsp := takeNum_spec s (p : Int)
  unfold takeText at h
  rcases hsp with ⟨h1, h2, h3, h4, h5⟩ | h' | h' | h'
  · have hN : takeNum s (p : Int) = ((takeNum s (p : Int)).1, (takeNum s (p : Int)).2.1, 0) := by
      rw [Prod.ext_iff, Prod.ext_iff]; exact ⟨rfl, rfl, h1⟩
    have hf := takeNum_form s p _ _ hN
    rw [if_neg (by simp [h1])] at h
    generalize takeNum s (p : Int) = N at *
    obtain ⟨n, r, e⟩ := N
    simp only at *
    split at h
    · simp at h
    · rename_i hb
      simp only [Prod.mk.injEq] at h
      obtain ⟨rfl, rfl, _⟩ := h
      refine ⟨by omega, by omega, ?_⟩
      have hl : ((s.drop r).take n).length = n := by rw [List.length_take, List.length_drop]; omega
      rw [List.take_add, hf.2.2.2, text, hl, List.append_assoc]
  all_goals
    rw [h', if_pos (by simp)] at h
    simp at h
theorem takeList_form (s : List UInt8) (n : Nat) : ∀ (p : Nat) (acc l : List (List UInt8)) (q : Nat), takeList s n p acc = (l, q, 0) → p ≤ s.length →
    ∃ r : List (List UInt8), l = acc ++ r ∧ r.length = n ∧ q ≤ s.length ∧ s.take q = s.take p ++ r.flatMap text := by
  induction n with
  | zero => intro p acc l q h hp; simp [takeList] at h; obtain ⟨rfl, rfl⟩ := h; exact ⟨[], by simp, rfl, hp, by simp⟩
  | succ n ih =>
    intro p acc l q h hp
    rw [takeList] at h
    rcases takeText_spec s (p : Int) with ⟨h3, h4, h5, h6, _⟩ | ⟨h3, h4, h5⟩
    · rw [if_neg (by simp [h3])] at h
      have hT : takeText s (p : Int) = ((takeText s (p : Int)).1, (takeText s (p : Int)).2.1, 0) := by
        rw [Prod.ext_iff, Prod.ext_iff]; exact ⟨rfl, rfl, h3⟩
      have hf := takeText_form s _ p _ hT
      obtain ⟨r, h1, h2, h7, h8⟩ := ih _ _ l q h h6
      refine ⟨(takeText s (p : Int)).1 :: r, by rw [h1]; simp, by simp [h2], h7, ?_⟩
      rw [h8, hf.2.2]; simp
    · rw [if_pos (by omega)] at h
      simp at h; omega
theorem flat_body (r : List (List UInt8)) (L : List ByteArray) (h : L.map (fun s => s.data.toList) = r) : r.flatMap text = body L := by
  subst h
  induction L with
  | nil => rfl
  | cons s L ih => simp only [List.map_cons, List.flatMap_cons, ih, body]
theorem takeTexts_form (s : List UInt8) (l : List (List UInt8)) (q : Nat) (h : takeTexts s 0 = (l, q, 0)) (L : List ByteArray) (hL : L.map (fun s => s.data.toList) = l) :
    1 ≤ q ∧ q ≤ s.length ∧ s.take q = texts L ∧ ∃ a, takeNum s 0 = (l.length, a, 0) ∧ a ≤ s.length ∧ s.take a = num l.length := by
  have hsp := takeNum_spec s ((0 : Nat) : Int)
  unfold takeTexts at h
  rw [show (0 : Int) = ((0 : Nat) : Int) from rfl] at h ⊢
  rcases hsp with ⟨h1, h2, h3, h4, h5⟩ | h' | h' | h'
  · have hN : takeNum s ((0 : Nat) : Int) = ((takeNum s ((0 : Nat) : Int)).1, (takeNum s ((0 : Nat) : Int)).2.1, 0) := by
      rw [Prod.ext_iff, Prod.ext_iff]; exact ⟨rfl, rfl, h1⟩
    have hf := takeNum_form s 0 _ _ hN
    rw [if_neg (fun hc => hc h1)] at h
    generalize takeNum s ((0 : Nat) : Int) = N at *
    obtain ⟨n, a, e⟩ := N
    simp only at *
    obtain ⟨r, e1, e2, e3, e4⟩ := takeList_form s n a [] l q h h5
    have hg := takeList_ge s n a [] l q h
    rw [List.nil_append] at e1
    subst e1
    have hlen : L.length = n := by rw [← e2, ← hL]; simp
    refine ⟨by omega, e3, ?_, a, ?_, h5, ?_⟩
    · rw [e4, hf.2.2.2, texts, flat_body l L hL, hlen]; simp
    · rw [e2, h1]
    · rw [e2, hf.2.2.2]; simp
  all_goals
    rw [h', if_pos (by simp)] at h
    simp at h
theorem takeTexts_err (s : List UInt8) (p : Int) (h : (takeTexts s p).2.2 ≠ 0) : (takeTexts s p).1 = [] ∧ (takeTexts s p).2.1 = 0 := by
  have key : ∀ (n q : Nat) (acc : List (List UInt8)), (takeList s n q acc).2.2 ≠ 0 → (takeList s n q acc).1 = [] ∧ (takeList s n q acc).2.1 = 0 := by
    intro n
    induction n with
    | zero => intro q acc h; simp [takeList] at h
    | succ n ih =>
      intro q acc h
      rw [takeList] at h ⊢
      split
      · simp
      · rename_i hc
        rw [if_neg hc] at h
        exact ih _ _ h
  unfold takeTexts at h ⊢
  split
  · simp
  · rename_i hc
    rw [if_neg hc] at h
    exact key _ _ _ h
end Pk
namespace Sl

def eightF : Nat → Nat → List UInt8
  | 0, _ => []
  | k + 1, n => UInt8.ofNat (n % 256) :: eightF k (n / 256)
def eight (n : Nat) : List UInt8 := eightF 8 n
theorem eightF_len (k : Nat) : ∀ n, (eightF k n).length = k := by
  induction k with
  | zero => intro n; rfl
  | succ k ih => intro n; simp [eightF, ih]
theorem eight_len (n : Nat) : (eight n).length = 8 := eightF_len 8 n
theorem eightF_get (k : Nat) : ∀ (n i : Nat) (h : i < (eightF k n).length), (eightF k n)[i] = UInt8.ofNat (n / 256 ^ i % 256) := by
  induction k with
  | zero => intro n i h; simp [eightF] at h
  | succ k ih =>
    intro n i h
    cases i with
    | zero => simp [eightF]
    | succ i =>
      simp only [eightF, List.getElem_cons_succ]
      rw [ih]
      have e : n / 256 / 256 ^ i = n / 256 ^ (i + 1) := by rw [Nat.div_div_eq_div_mul, Nat.pow_succ, Nat.mul_comm]
      rw [e]
theorem eight_get (n i : Nat) (h : i < (eight n).length) : (eight n)[i] = UInt8.ofNat (n / 256 ^ i % 256) := eightF_get 8 n i h
theorem eightF_snoc (k n : Nat) : eightF (k + 1) n = eightF k n ++ [UInt8.ofNat (n / 256 ^ k % 256)] := by
  induction k generalizing n with
  | zero => simp [eightF]
  | succ k ih =>
    rw [eightF, ih]
    have e : n / 256 / 256 ^ k = n / 256 ^ (k + 1) := by rw [Nat.div_div_eq_div_mul, Nat.pow_succ, Nat.mul_comm]
    rw [e]; simp [eightF]
theorem eight_inj (a b : Nat) (ha : a < 18446744073709551616) (hb : b < 18446744073709551616) (h : eight a = eight b) : a = b := by
  have key : ∀ k (x y : Nat), x < 256 ^ k → y < 256 ^ k → eightF k x = eightF k y → x = y := by
    intro k
    induction k with
    | zero => intro x y hx hy _; simp at hx hy; omega
    | succ k ih =>
      intro x y hx hy h
      simp only [eightF, List.cons.injEq] at h
      have h1 : x % 256 = y % 256 := by
        have := congrArg UInt8.toNat h.1
        simpa using this
      have h2 := ih (x / 256) (y / 256) (by rw [Nat.pow_succ] at hx; omega) (by rw [Nat.pow_succ] at hy; omega) h.2
      omega
  exact key 8 a b (by simpa using ha) (by simpa using hb) h

/- what stands ahead of the sum, and the frame -/
def front (v : Nat) (b : List UInt8) : List UInt8 := [231, UInt8.ofNat v] ++ Pk.text b
def frame (v : Nat) (b : List UInt8) : List UInt8 := front v b ++ eight (sum (front v b))
theorem front_len (v : Nat) (b : List UInt8) : (front v b).length = 2 + (Pk.num b.length).length + b.length := by simp [front, Pk.text]; omega
theorem frame_len (v : Nat) (b : List UInt8) : (frame v b).length = 2 + (Pk.num b.length).length + b.length + 8 := by simp [frame, front_len, eight_len]
/- sealing: the frame, the error -/
def sealE (v : Int) (b : List UInt8) : List UInt8 × Nat :=
  if 0 ≤ v ∧ v ≤ 255 then (if b.length ≤ 30000 then (frame v.toNat b, 0) else ([], 3)) else ([], 2)

/- the head: 0, or the error -/
def headE (s : List UInt8) (p v : Int) : Nat :=
  if 0 ≤ p ∧ p ≤ s.length ∧ 0 ≤ v ∧ v ≤ 255 then
    match s.drop p.toNat with
    | [] => 10
    | c :: r => if c = 231 then (match r with | [] => 10 | d :: _ => if d.toNat = v.toNat then 0 else 21) else 20
  else 2
/- where the body is: from, to, the error -/
def endsE (s : List UInt8) (p v : Int) : Nat × Nat × Nat :=
  if headE s p v = 0 then
    (if (Pk.takeNum s (p + 2)).2.2 = 0 then
      (if (Pk.takeNum s (p + 2)).1 ≤ 30000 then
        (if (Pk.takeNum s (p + 2)).2.1 + (Pk.takeNum s (p + 2)).1 + 8 ≤ s.length then ((Pk.takeNum s (p + 2)).2.1, (Pk.takeNum s (p + 2)).2.1 + (Pk.takeNum s (p + 2)).1, 0) else (0, 0, 10))
      else (0, 0, 3))
    else (0, 0, (Pk.takeNum s (p + 2)).2.2))
  else (0, 0, headE s p v)
/- opening: the body, the place behind, the error -/
def openE (s : List UInt8) (p v : Int) : List UInt8 × Nat × Nat :=
  if (endsE s p v).2.2 = 0 then
    (if (s.drop (endsE s p v).2.1).take 8 = eight (sum ((s.drop p.toNat).take ((endsE s p v).2.1 - p.toNat))) then
      ((s.drop (endsE s p v).1).take ((endsE s p v).2.1 - (endsE s p v).1), (endsE s p v).2.1 + 8, 0)
    else ([], 0, 22))
  else ([], 0, (endsE s p v).2.2)

theorem head_ok (s : List UInt8) (p v : Int) (h : headE s p v = 0) :
    0 ≤ p ∧ 0 ≤ v ∧ v ≤ 255 ∧ p + 2 ≤ s.length ∧ ∃ r, s.drop p.toNat = 231 :: UInt8.ofNat v.toNat :: r := by
  unfold headE at h
  split at h
  · rename_i hp
    obtain ⟨h1, h2, h3, h4⟩ := hp
    have hl : (s.drop p.toNat).length = s.length - p.toNat := by simp
    split at h
    · cases h
    · rename_i c r e
      split at h
      · rename_i hc
        split at h
        · cases h
        · rename_i d r'
          split at h
          · rename_i hd
            refine ⟨h1, h3, h4, ?_, r', ?_⟩
            · rw [e] at hl; simp at hl; omega
            · rw [e, hc, ← hd]; simp
          · cases h
      · cases h
  · cases h
theorem ends_ok (s : List UInt8) (p v : Int) (f t : Nat) (h : endsE s p v = (f, t, 0)) :
    headE s p v = 0 ∧ ∃ n, Pk.takeNum s (p + 2) = (n, f, 0) ∧ n ≤ 30000 ∧ t = f + n ∧ f + n + 8 ≤ s.length := by
  unfold endsE at h
  split at h
  · rename_i h0
    split at h
    · rename_i h1
      split at h
      · rename_i h2
        split at h
        · rename_i h3
          simp only [Prod.mk.injEq] at h
          obtain ⟨rfl, rfl, _⟩ := h
          exact ⟨h0, _, by rw [← h1], h2, rfl, h3⟩
        · simp at h
      · simp at h
    · rename_i h1; simp at h; exact absurd h.2.2 h1
  · rename_i h0; simp at h; exact absurd h.2.2 h0
theorem ends_le (s : List UInt8) (p v : Int) : (endsE s p v).2.2 = 0 → p.toNat + 2 ≤ (endsE s p v).1 ∧ (endsE s p v).1 ≤ (endsE s p v).2.1 ∧ (endsE s p v).2.1 + 8 ≤ s.length ∧ (endsE s p v).2.1 - (endsE s p v).1 ≤ 30000 := by
  intro h
  obtain ⟨h0, n, h1, h2, h3, h4⟩ := ends_ok s p v (endsE s p v).1 (endsE s p v).2.1 (by rw [← h])
  obtain ⟨a, b, c, d, r, e⟩ := head_ok s p v h0
  have hp : p + 2 = ((p.toNat + 2 : Nat) : Int) := by omega
  rw [hp] at h1
  have := (Pk.takeNum_form _ _ _ _ h1).1
  omega

/- what is opened is sealed as it stood -/
theorem front_at (s : List UInt8) (p v : Int) (f t : Nat) (h : endsE s p v = (f, t, 0)) :
    (s.drop p.toNat).take (t - p.toNat) = front v.toNat ((s.drop f).take (t - f)) ∧ ((s.drop f).take (t - f)).length = t - f ∧ p.toNat + 2 ≤ f ∧ f ≤ t := by
  obtain ⟨h0, n, h1, h2, h3, h4⟩ := ends_ok s p v f t h
  obtain ⟨a, b, c, d, r, e⟩ := head_ok s p v h0
  have hp : p + 2 = ((p.toNat + 2 : Nat) : Int) := by omega
  rw [hp] at h1
  obtain ⟨g1, g2, g3, g4⟩ := Pk.takeNum_form _ _ _ _ h1
  have hn : t - f = n := by omega
  have hlen : ((s.drop f).take (t - f)).length = n := by simp; omega
  refine ⟨?_, by omega, by omega, by omega⟩
  -- s.take f = s.take (p+2) ++ num n
  have hf : (s.drop p.toNat).take (f - p.toNat) = [231, UInt8.ofNat v.toNat] ++ Pk.num n := by
    have e1 : (s.take f).drop p.toNat = (s.drop p.toNat).take (f - p.toNat) := by rw [List.drop_take]
    rw [← e1, g4, List.drop_append_of_le_length (by simp; omega)]
    congr 1
    rw [List.drop_take, e]
    have : p.toNat + 2 - p.toNat = 2 := by omega
    rw [this]; rfl
  have e2 : (s.drop p.toNat).take (t - p.toNat) = (s.drop p.toNat).take (f - p.toNat) ++ ((s.drop p.toNat).drop (f - p.toNat)).take (t - f) := by
    have : t - p.toNat = (f - p.toNat) + (t - f) := by omega
    rw [this, List.take_add]
  rw [e2, hf, List.drop_drop]
  have : p.toNat + (f - p.toNat) = f := by omega
  rw [this]
  simp only [front, Pk.text, hlen, List.append_assoc]

theorem open_head (s : List UInt8) (p v : Int) (k : Nat) (h : headE s p v = k) (hk : k ≠ 0) : openE s p v = ([], 0, k) := by
  have e : endsE s p v = (0, 0, k) := by unfold endsE; rw [if_neg (by rw [h]; exact hk), h]
  unfold openE
  rw [e]; simp [hk]
theorem take_shift (s : List UInt8) (a : Nat) (h : a + 2 ≤ s.length) :
    Pk.takeNum (s.drop a) 2 = ((Pk.takeNum s ((a : Int) + 2)).1, (Pk.takeNum s ((a : Int) + 2)).2.1 - a, (Pk.takeNum s ((a : Int) + 2)).2.2) := by
  have key : ∀ (l : List UInt8) (p : Nat), p ≤ l.length → Pk.takeNum l (p : Int) = ((Pk.take (l.drop p)).1, if (Pk.take (l.drop p)).2.2 = 0 then p + (Pk.take (l.drop p)).2.1 else 0, (Pk.take (l.drop p)).2.2) := by
    intro l p hp
    unfold Pk.takeNum
    rw [if_pos ⟨by omega, by omega⟩]; rfl
  have e1 : ((a : Int) + 2) = ((a + 2 : Nat) : Int) := by omega
  have e2 : (2 : Int) = ((2 : Nat) : Int) := rfl
  have A := key (s.drop a) 2 (by simp; omega)
  have B := key s (a + 2) h
  rw [List.drop_drop] at A
  rw [e1, B]
  rw [e2, A]
  simp only [Prod.mk.injEq, true_and, and_true]
  split <;> omega
theorem open_take (s : List UInt8) (a v : Nat) (hh : headE s a v = 0) (n f e : Nat) (ht : Pk.takeNum s ((a : Int) + 2) = (n, f, e)) :
    openE s a v = if e = 0 then (if n ≤ 30000 then (if f + n + 8 ≤ s.length then
      (if ((frame v (((s.drop a).drop (f - a)).take n)) == (s.drop a).take (f - a + n + 8)) then ((((s.drop a).drop (f - a)).take n), f + n + 8, 0) else ([], 0, 22)) else ([], 0, 10)) else ([], 0, 3)) else ([], 0, e) := by
  have hE : endsE s a v = if e = 0 then (if n ≤ 30000 then (if f + n + 8 ≤ s.length then (f, f + n, 0) else (0, 0, 10)) else (0, 0, 3)) else (0, 0, e) := by
    unfold endsE; rw [if_pos hh, ht]
  by_cases h1 : e = 0
  · rw [if_pos h1] at hE ⊢
    by_cases h2 : n ≤ 30000
    · rw [if_pos h2] at hE ⊢
      by_cases h3 : f + n + 8 ≤ s.length
      · rw [if_pos h3] at hE ⊢
        obtain ⟨g1, g2, g3, g4⟩ := front_at s a v f (f + n) hE
        have e0 : ((a : Nat) : Int).toNat = a := rfl
        have e1 : ((v : Nat) : Int).toNat = v := rfl
        have e2 : f + n - f = n := by omega
        rw [e0, e1, e2] at g1
        rw [e0] at g3
        have e3 : (s.drop a).drop (f - a) = s.drop f := by rw [List.drop_drop]; congr 1; omega
        have e4 : f + n - a = f - a + n := by omega
        have e5 : (s.drop a).take (f - a + n + 8) = (s.drop a).take (f - a + n) ++ (s.drop (f + n)).take 8 := by
          rw [List.take_add, List.drop_drop]; congr 3; omega
        have e6 : (s.drop a).take (f - a + n) = front v ((s.drop f).take n) := by rw [← e4]; exact g1
        unfold openE
        rw [hE]
        simp only [e0, e2, e3, e4, e5, e6, frame]
        by_cases hq : (s.drop (f + n)).take 8 = eight (sum (front v ((s.drop f).take n)))
        · rw [hq]; simp
        · rw [if_pos trivial, if_neg hq, if_neg]
          intro h
          simp only [beq_iff_eq, List.append_cancel_left_eq] at h
          exact hq h.symm
      · rw [if_neg h3] at hE ⊢; unfold openE; rw [hE]; rfl
    · rw [if_neg h2] at hE ⊢; unfold openE; rw [hE]; rfl
  · rw [if_neg h1] at hE ⊢; unfold openE; rw [hE]; simp [h1]
end Sl
namespace Go.Proofs.YtojmhhmpmpbpfaaGreatDoor
open Go.RowKit

set_option maxHeartbeats 400000 in
set_option maxRecDepth 100000 in
theorem number_any (n : Nat) (w : World) (hn : n < 18446744073709551616) :
    Calls Tryz.prog 107 #[.int .u64 n] w fun e w' => e = .returned (.string ⟨(Pk.num n).toArray⟩) ∧ Gr w w' := by
  obtain ⟨i0, hi, hz0, hz1, hz2⟩ := info_parts info5
  have hpow : n < 128 ^ (9 + 1) := by omega
  have hmk : ∀ w : World, (Instr.makeSlice 123 (.int .i64 0) (.int .i64 10)).run Tryz.prog w = .ok (.slice (some ⟨w.heap.size, 0, none⟩) 0 10) (w.alloc (.cells (Array.replicate 10 (.int .u8 0)) 5)) := fun _ => by kernel_rfl
  go_enter Tryz.func107, Tryz.ntmps107
  go_wp2
  go_loopw [0, 3] (fun m v wr => ∃ (f x : Nat) (l : List UInt8), m = .int .u64 x ∧ x ≤ n ∧ x < 128 ^ (f + 1) ∧ f + l.length = 9 ∧ Pk.num n = l ++ Pk.numF f x ∧ wr.ownsRow w.heap.size 5 1 v l.length (Lib.byteCells l) ∧ Below w.heap.size w wr)
    (fun m _ _ => (intOf m).toNat)
  case atStart => exact ⟨9, n, [], rfl, Nat.le_refl _, hpow, rfl, rfl, World.ownsRow_made w _ 10 (Nat.le_refl _) (by decide) (by simp), (Below.refl _ _).alloc (Nat.le_refl _) _⟩
  case round =>
    obtain ⟨f, x, l, rfl, hxn, hx, hf, hnum, hown, hb⟩ := hrel
    have HN : Hid (Pk.num n = l ++ Pk.numF f x) := hnum
    have HX : Hid (x < 128 ^ (f + 1)) := hx
    have HF : Hid (f + l.length = 9) := hf
    clear hnum hmk hx hf hpow
    have hbs := hb.size
    have hl9 : l.length ≤ 9 := by have := HF.out; omega
    have hm1 : l.length + 1 ≤ maxLen := by unfold maxLen; omega
    by_cases hlt : x < 128
    · have hcv := fun v' (w1 : World) (h : w1.ownsRow w.heap.size 5 1 v' (l.length + 1) (Lib.byteCells l ++ [.int .u8 (x : Int)])) => own_string (l := l ++ [UInt8.ofNat x]) (w := w1) (v := v') (n := l.length + 1) (base := w.heap.size) (by rw [byteCells_snoc]; simpa [Nat.mod_eq_of_lt (show x < 256 by omega)] using h) (by simp)
      go_wp2_with (first
        | (at_builtin; refine wpList_append_own _ rfl _ _ 123 rfl w.heap.size 5 i0 (.int .u8 0) 1 1 Tryz.underlying123 hi hz0 hz1 hz2 rfl (by decide) _ _ _ rfl (hown.alloc _) ⟨wr.heap.size, 0, none⟩ 1 1 [.int .u8 x] rfl rfl (cell_one_new _ _ _) (by intro u hu; simp at hu; subst hu; rfl) hm1 (by omega) (by simp; omega) ?_)
        | fail)
      intro v' w1 hown' hgrow _
      have hc1 := hcv v' w1 hown'
      clear hcv
      go_wp2
      go_ret
      have hN := HN.out
      rw [Pk.numF_lt f x hlt] at hN
      refine ⟨by rw [hN]; rfl, ?_⟩
      refine Gr.of ?_
      exact (hb.alloc hbs _).grown hgrow (by simp; omega) (fun k hk => (hown.lt k hk).1)
    · have hf1 : ∃ g, f = g + 1 := by
        cases f with
        | zero => have := HX.out; simp at this; omega
        | succ g => exact ⟨g, rfl⟩
      obtain ⟨g, rfl⟩ := hf1
      go_wp2_with (first
        | (at_builtin; refine wpList_append_own _ rfl _ _ 123 rfl w.heap.size 5 i0 (.int .u8 0) 1 1 Tryz.underlying123 hi hz0 hz1 hz2 rfl (by decide) _ _ _ rfl (hown.alloc _) ⟨wr.heap.size, 0, none⟩ 1 1 [.int .u8 ((x : Int) % 128 + 128)] rfl rfl (cell_one_new _ _ _) (by intro u hu; simp at hu; subst hu; rfl) hm1 (by omega) (by simp; omega) ?_)
        | fail)
      intro v' w1 hown' hgrow _
      go_wp2
      go_roundw
      case rel =>
        refine ⟨g, x / 128, l ++ [UInt8.ofNat (x % 128 + 128)], ?_, ?_, ?_, ?_, ?_, ?_, (hb.alloc hbs _).grown hgrow (by simp; omega) (fun k hk => (hown.lt k hk).1)⟩
        · go_num
        · omega
        · have := HX.out; rw [Nat.pow_succ] at this; omega
        · have := HF.out; simp; omega
        · rw [HN.out, Pk.numF_ge g x hlt]; simp
        · rw [byteCells_snoc]; simp only [List.length_append, List.length_singleton]
          have e : (UInt8.ofNat (x % 128 + 128)).toNat = x % 128 + 128 := by simp; omega
          rw [e]; exact hown'
      case measure => simp [intOf]; omega
end Go.Proofs.YtojmhhmpmpbpfaaGreatDoor
