
/- What was laid is taken again, wherever it stands; what is taken, laid, is the bytes that it was taken from, and a beginning of these is not taken. -/
import Derived.Test.YtoeibjflaiiljaaDoorMath6
namespace Pk

theorem takeNum_at (A R : List UInt8) (n : Nat) (h : n < 18446744073709551616) : takeNum (A ++ (num n ++ R)) (A.length : Int) = (n, A.length + (num n).length, 0) := by
  unfold takeNum
  rw [if_pos ⟨by omega, by simp; omega⟩, Int.toNat_natCast, List.drop_left, take_num n R h]
  simp
theorem takeText_at (A R t : List UInt8) (h : t.length < 18446744073709551616) : takeText (A ++ (text t ++ R)) (A.length : Int) = (t, A.length + (text t).length, 0) := by
  have e : A ++ (text t ++ R) = A ++ (num t.length ++ (t ++ R)) := by simp [text]
  unfold takeText
  rw [e, takeNum_at A (t ++ R) t.length h]
  simp only [ne_eq, not_true_eq_false, if_false]
  rw [if_neg (by simp; omega)]
  have e2 : A ++ (num t.length ++ (t ++ R)) = (A ++ num t.length) ++ (t ++ R) := by simp
  rw [e2, show A.length + (num t.length).length = (A ++ num t.length).length by simp, List.drop_left]
  simp [text]; omega
theorem takeList_at (L : List ByteArray) : ∀ (A R : List UInt8) (acc : List (List UInt8)), (∀ s ∈ L, s.size < 18446744073709551616) →
    takeList (A ++ (body L ++ R)) L.length A.length acc = (acc ++ L.map (fun s => s.data.toList), A.length + (body L).length, 0) := by
  induction L with
  | nil => intro A R acc _; simp [takeList, body]
  | cons s L ih =>
    intro A R acc h
    have e : A ++ (body (s :: L) ++ R) = A ++ (text s.data.toList ++ (body L ++ R)) := by simp [body]
    have hs : s.data.toList.length < 18446744073709551616 := by
      have := h s (by simp)
      simpa using this
    rw [List.length_cons, takeList, e, takeText_at A (body L ++ R) s.data.toList hs]
    simp only [ne_eq, not_true_eq_false, if_false]
    have e2 : A ++ (text s.data.toList ++ (body L ++ R)) = (A ++ text s.data.toList) ++ (body L ++ R) := by simp
    rw [e2, show A.length + (text s.data.toList).length = (A ++ text s.data.toList).length by simp, ih _ R _ (fun x hx => h x (by simp [hx]))]
    simp [body]; omega
theorem takeTexts_at (A R : List UInt8) (L : List ByteArray) (hn : L.length < 18446744073709551616) (h : ∀ s ∈ L, s.size < 18446744073709551616) :
    takeTexts (A ++ (texts L ++ R)) (A.length : Int) = (L.map (fun s => s.data.toList), A.length + (texts L).length, 0) := by
  have e : A ++ (texts L ++ R) = A ++ (num L.length ++ (body L ++ R)) := by simp [texts]
  unfold takeTexts
  rw [e, takeNum_at A _ L.length hn]
  simp only [ne_eq, not_true_eq_false, if_false]
  have e2 : A ++ (num L.length ++ (body L ++ R)) = (A ++ num L.length) ++ (body L ++ R) := by simp
  rw [e2, show A.length + (num L.length).length = (A ++ num L.length).length by simp, takeList_at L _ R [] h]
  simp [texts]; omega
theorem unsg_sgn (m : Int) : unsg (sgn m) = m := by
  unfold unsg sgn
  split <;> split <;> omega

/- a beginning of what is taken is not taken -/
theorem takeF_cut (f : Nat) : ∀ (i a : Nat) (l : List UInt8) (m v q : Nat), takeF f i a l = (v, q, 0) → i < q ∧ takeF f i a (l.take m) = if q - i ≤ m then (v, q, 0) else (0, 0, 10) := by
  induction f with
  | zero => intro i a l m v q h; simp [takeF] at h
  | succ f ih =>
    intro i a l m v q h
    cases l with
    | nil => simp [takeF] at h
    | cons b r =>
      rw [takeF] at h
      cases m with
      | zero =>
        have hq : i < q := by
          split at h
          · have := (ih _ _ r 0 v q h).1; omega
          · split at h
            · simp at h
            · simp at h; omega
        refine ⟨hq, ?_⟩
        rw [List.take_zero, takeF, if_neg (by omega)]
      | succ m =>
        rw [List.take_succ_cons, takeF]
        split at h
        · rename_i hge
          rw [if_pos hge]
          have := ih _ _ r m v q h
          refine ⟨by omega, ?_⟩
          rw [this.2]
          by_cases hc : q - (i + 1) ≤ m
          · rw [if_pos hc, if_pos (by omega)]
          · rw [if_neg hc, if_neg (by omega)]
        · rename_i hge
          rw [if_neg hge]
          split at h
          · simp at h
          · rename_i hl
            rw [if_neg hl]
            simp at h
            obtain ⟨h1, h2⟩ := h
            refine ⟨by omega, ?_⟩
            rw [if_pos (by omega), h1, h2]
theorem takeNum_cut (s : List UInt8) (p m n q : Nat) (h : takeNum s (p : Int) = (n, q, 0)) (hpm : p ≤ m) : takeNum (s.take m) (p : Int) = if q ≤ m then (n, q, 0) else (0, 0, 10) := by
  rcases Nat.lt_or_ge s.length m with hm | hm
  · rw [List.take_of_length_le (by omega), h]
    rcases takeNum_spec s (p : Int) with ⟨_, _, _, _, h5⟩ | h' | h' | h'
    · rw [h] at h5
      rw [if_pos (by simp at h5; omega)]
    all_goals rw [h] at h'; simp at h'
  · unfold takeNum at h ⊢
    by_cases hp : (0 : Int) ≤ p ∧ (p : Int) ≤ s.length
    · rw [if_pos hp, Int.toNat_natCast] at h
      rw [if_pos ⟨by omega, by rw [List.length_take]; omega⟩, Int.toNat_natCast]
      simp only [Prod.mk.injEq] at h
      obtain ⟨h1, h2, h3⟩ := h
      rw [if_pos h3] at h2
      have ht : take (s.drop p) = (n, (take (s.drop p)).2.1, 0) := by
        rw [Prod.ext_iff, Prod.ext_iff]; exact ⟨h1, rfl, h3⟩
      have hd : (s.take m).drop p = (s.drop p).take (m - p) := by rw [List.drop_take]
      have hc := (takeF_cut 10 0 0 (s.drop p) (m - p) n _ ht).2
      rw [hd]
      have hc' : take ((s.drop p).take (m - p)) = if (take (s.drop p)).2.1 - 0 ≤ m - p then (n, (take (s.drop p)).2.1, 0) else (0, 0, 10) := hc
      rw [hc']
      by_cases hq : q ≤ m
      · rw [if_pos hq, if_pos (by omega)]; simp; omega
      · rw [if_neg hq, if_neg (by omega)]; simp
    · rw [if_neg hp] at h; simp at h
theorem takeText_cut (s t : List UInt8) (p m q : Nat) (h : takeText s (p : Int) = (t, q, 0)) (hpm : p ≤ m) : takeText (s.take m) (p : Int) = if q ≤ m then (t, q, 0) else ([], 0, 10) := by
  have hsp := takeNum_spec s (p : Int)
  unfold takeText at h ⊢
  rcases hsp with ⟨h1, h2, h3, h4, h5⟩ | h' | h' | h'
  · have hN : takeNum s (p : Int) = ((takeNum s (p : Int)).1, (takeNum s (p : Int)).2.1, 0) := by
      rw [Prod.ext_iff, Prod.ext_iff]; exact ⟨rfl, rfl, h1⟩
    rw [if_neg (by simp [h1])] at h
    have hc := takeNum_cut s p m _ _ hN hpm
    generalize takeNum s (p : Int) = N at *
    obtain ⟨n, r, e⟩ := N
    simp only at *
    split at h
    · simp at h
    · rename_i hb
      simp only [Prod.mk.injEq] at h
      obtain ⟨rfl, rfl, _⟩ := h
      rw [hc]
      by_cases hr : r ≤ m
      · rw [if_pos hr]
        simp only [ne_eq, not_true_eq_false, if_false]
        by_cases hq : r + n ≤ m
        · rw [if_pos hq, if_neg (by rw [List.length_take]; omega), List.drop_take, List.take_take, Nat.min_eq_left (by omega)]
        · rw [if_neg hq, if_pos (by rw [List.length_take]; omega)]
      · rw [if_neg hr, if_pos (show ((0, 0, 10) : Nat × Nat × Nat).2.2 ≠ 0 by decide), if_neg (show ¬ r + n ≤ m by omega)]
  all_goals
    rw [h', if_pos (by simp)] at h
    simp at h
theorem takeList_ge (s : List UInt8) (n : Nat) : ∀ (p : Nat) (acc l : List (List UInt8)) (q : Nat), takeList s n p acc = (l, q, 0) → p ≤ q ∧ (0 < n → p < q) ∧ l.length = acc.length + n ∧ q ≤ max p s.length := by
  induction n with
  | zero => intro p acc l q h; simp [takeList] at h; obtain ⟨rfl, rfl⟩ := h; simp; omega
  | succ n ih =>
    intro p acc l q h
    rw [takeList] at h
    rcases takeText_spec s (p : Int) with ⟨h3, h4, h5, h6, _⟩ | ⟨h3, h4, h5⟩
    · rw [if_neg (by simp [h3])] at h
      have := ih _ _ l q h
      simp at this
      omega
    · rw [if_pos (by omega)] at h
      simp at h; omega
theorem takeList_cut (s : List UInt8) (m n : Nat) : ∀ (p : Nat) (acc l : List (List UInt8)) (q : Nat), takeList s n p acc = (l, q, 0) → p ≤ m →
    takeList (s.take m) n p acc = if q ≤ m then (l, q, 0) else ([], 0, 10) := by
  induction n with
  | zero => intro p acc l q h hp; simp [takeList] at h ⊢; obtain ⟨rfl, rfl⟩ := h; rw [if_pos hp]
  | succ n ih =>
    intro p acc l q h hp
    rw [takeList] at h ⊢
    rcases takeText_spec s (p : Int) with ⟨h3, h4, h5, h6, _⟩ | ⟨h3, h4, h5⟩
    · rw [if_neg (by simp [h3])] at h
      have hT : takeText s (p : Int) = ((takeText s (p : Int)).1, (takeText s (p : Int)).2.1, 0) := by
        rw [Prod.ext_iff, Prod.ext_iff]; exact ⟨rfl, rfl, h3⟩
      have hc := takeText_cut s _ p m _ hT hp
      rw [hc]
      by_cases hr : (takeText s (p : Int)).2.1 ≤ m
      · rw [if_pos hr]
        simp only [ne_eq, not_true_eq_false, if_false]
        exact ih _ _ l q h hr
      · have := (takeList_ge s n _ _ l q h).1
        rw [if_neg hr, if_pos (show (([], 0, 10) : List UInt8 × Nat × Nat).2.2 ≠ 0 by decide), if_neg (show ¬ q ≤ m by omega)]
    · rw [if_pos (by omega)] at h
      simp at h; omega
theorem takeTexts_cut (s : List UInt8) (m : Nat) (l : List (List UInt8)) (q : Nat) (h : takeTexts s 0 = (l, q, 0)) (hm : m < q) : takeTexts (s.take m) 0 = ([], 0, 10) := by
  have hsp := takeNum_spec s ((0 : Nat) : Int)
  unfold takeTexts at h ⊢
  rw [show (0 : Int) = ((0 : Nat) : Int) from rfl] at h ⊢
  rcases hsp with ⟨h1, h2, h3, h4, h5⟩ | h' | h' | h'
  · have hN : takeNum s ((0 : Nat) : Int) = ((takeNum s ((0 : Nat) : Int)).1, (takeNum s ((0 : Nat) : Int)).2.1, 0) := by
      rw [Prod.ext_iff, Prod.ext_iff]; exact ⟨rfl, rfl, h1⟩
    rw [if_neg (fun hc => hc h1)] at h
    have hc := takeNum_cut s 0 m _ _ hN (by omega)
    rw [hc]
    by_cases hr : (takeNum s ((0 : Nat) : Int)).2.1 ≤ m
    · rw [if_pos hr]
      simp only [ne_eq, not_true_eq_false, if_false]
      rw [takeList_cut s m _ _ _ l q h hr, if_neg (by omega)]
    · rw [if_neg hr]
      simp
  all_goals
    rw [h', if_pos (by simp)] at h
    simp at h
/- what is taken, laid, is the bytes that it was taken from -/
theorem takeNum_form (s : List UInt8) (p n q : Nat) (h : takeNum s (p : Int) = (n, q, 0)) : p < q ∧ q ≤ s.length ∧ n < 18446744073709551616 ∧ s.take q = s.take p ++ num n := by
  have hsp := takeNum_spec s (p : Int)
  rw [h] at hsp
  rcases hsp with ⟨_, h2, h3, h4, h5⟩ | h' | h' | h'
  · simp only at h2 h4 h5
    refine ⟨by omega, h5, h2, ?_⟩
    unfold takeNum at h
    rw [if_pos ⟨by omega, by omega⟩, Int.toNat_natCast] at h
    simp only [Prod.mk.injEq] at h
    obtain ⟨e1, e2, e3⟩ := h
    rw [if_pos e3] at e2
    have ht : take (s.drop p) = (n, (take (s.drop p)).2.1, 0) := by
      rw [Prod.ext_iff, Prod.ext_iff]; exact ⟨e1, rfl, e3⟩
    have hf := take_form _ _ _ ht
    rw [← hf, show q = p + (take (s.drop p)).2.1 from e2.symm, List.take_add]
  all_goals simp at h'
theorem takeText_form (s t : List UInt8) (p q : Nat) (h : takeText s (p : Int) = (t, q, 0)) : p < q ∧ q ≤ s.length ∧ s.take q = s.take p ++ text t := by
  have hsp := takeNum_spec s (p : Int)
  unfold takeText at h
  rcases hsp with ⟨h1, h2, h3, h4, h5⟩ | h' | h' | h'
  · have hN : takeNum s (p : Int) = ((takeNum s (p : Int)).1, (takeNum s (p : Int)).2.1, 0) := by
      rw [Prod.ext_iff, Prod.ext_iff]; exact ⟨rfl, rfl, h1⟩
    have hf := takeNum_form s p _ _ hN
    rw [if_neg (by simp [h1])] at h
    generalize takeNum s (p : Int) = N at *
    obtain ⟨n, r, e⟩ := N
    simp only at *
    split at h
    · simp at h
    · rename_i hb
      simp only [Prod.mk.injEq] at h
      obtain ⟨rfl, rfl, _⟩ := h
      refine ⟨by omega, by omega, ?_⟩
      have hl : ((s.drop r).take n).length = n := by rw [List.length_take, List.length_drop]; omega
      rw [List.take_add, hf.2.2.2, text, hl, List.append_assoc]
  all_goals
    rw [h', if_pos (by simp)] at h
    simp at h
theorem takeList_form (s : List UInt8) (n : Nat) : ∀ (p : Nat) (acc l : List (List UInt8)) (q : Nat), takeList s n p acc = (l, q, 0) → p ≤ s.length →
    ∃ r : List (List UInt8), l = acc ++ r ∧ r.length = n ∧ q ≤ s.length ∧ s.take q = s.take p ++ r.flatMap text := by
  induction n with
  | zero => intro p acc l q h hp; simp [takeList] at h; obtain ⟨rfl, rfl⟩ := h; exact ⟨[], by simp, rfl, hp, by simp⟩
  | succ n ih =>
    intro p acc l q h hp
    rw [takeList] at h
    rcases takeText_spec s (p : Int) with ⟨h3, h4, h5, h6, _⟩ | ⟨h3, h4, h5⟩
    · rw [if_neg (by simp [h3])] at h
      have hT : takeText s (p : Int) = ((takeText s (p : Int)).1, (takeText s (p : Int)).2.1, 0) := by
        rw [Prod.ext_iff, Prod.ext_iff]; exact ⟨rfl, rfl, h3⟩
      have hf := takeText_form s _ p _ hT
      obtain ⟨r, h1, h2, h7, h8⟩ := ih _ _ l q h h6
      refine ⟨(takeText s (p : Int)).1 :: r, by rw [h1]; simp, by simp [h2], h7, ?_⟩
      rw [h8, hf.2.2]; simp
    · rw [if_pos (by omega)] at h
      simp at h; omega
theorem flat_body (r : List (List UInt8)) (L : List ByteArray) (h : L.map (fun s => s.data.toList) = r) : r.flatMap text = body L := by
  subst h
  induction L with
  | nil => rfl
  | cons s L ih => simp only [List.map_cons, List.flatMap_cons, ih, body]
theorem takeTexts_form (s : List UInt8) (l : List (List UInt8)) (q : Nat) (h : takeTexts s 0 = (l, q, 0)) (L : List ByteArray) (hL : L.map (fun s => s.data.toList) = l) :
    1 ≤ q ∧ q ≤ s.length ∧ s.take q = texts L ∧ ∃ a, takeNum s 0 = (l.length, a, 0) ∧ a ≤ s.length ∧ s.take a = num l.length := by
  have hsp := takeNum_spec s ((0 : Nat) : Int)
  unfold takeTexts at h
  rw [show (0 : Int) = ((0 : Nat) : Int) from rfl] at h ⊢
  rcases hsp with ⟨h1, h2, h3, h4, h5⟩ | h' | h' | h'
  · have hN : takeNum s ((0 : Nat) : Int) = ((takeNum s ((0 : Nat) : Int)).1, (takeNum s ((0 : Nat) : Int)).2.1, 0) := by
      rw [Prod.ext_iff, Prod.ext_iff]; exact ⟨rfl, rfl, h1⟩
    have hf := takeNum_form s 0 _ _ hN
    rw [if_neg (fun hc => hc h1)] at h
    generalize takeNum s ((0 : Nat) : Int) = N at *
    obtain ⟨n, a, e⟩ := N
    simp only at *
    obtain ⟨r, e1, e2, e3, e4⟩ := takeList_form s n a [] l q h h5
    have hg := takeList_ge s n a [] l q h
    rw [List.nil_append] at e1
    subst e1
    have hlen : L.length = n := by rw [← e2, ← hL]; simp
    refine ⟨by omega, e3, ?_, a, ?_, h5, ?_⟩
    · rw [e4, hf.2.2.2, texts, flat_body l L hL, hlen]; simp
    · rw [e2, h1]
    · rw [e2, hf.2.2.2]; simp
  all_goals
    rw [h', if_pos (by simp)] at h
    simp at h
theorem takeTexts_err (s : List UInt8) (p : Int) (h : (takeTexts s p).2.2 ≠ 0) : (takeTexts s p).1 = [] ∧ (takeTexts s p).2.1 = 0 := by
  have key : ∀ (n q : Nat) (acc : List (List UInt8)), (takeList s n q acc).2.2 ≠ 0 → (takeList s n q acc).1 = [] ∧ (takeList s n q acc).2.1 = 0 := by
    intro n
    induction n with
    | zero => intro q acc h; simp [takeList] at h
    | succ n ih =>
      intro q acc h
      rw [takeList] at h ⊢
      split
      · simp
      · rename_i hc
        rw [if_neg hc] at h
        exact ih _ _ h
  unfold takeTexts at h ⊢
  split
  · simp
  · rename_i hc
    rw [if_neg hc] at h
    exact key _ _ _ h
end Pk
