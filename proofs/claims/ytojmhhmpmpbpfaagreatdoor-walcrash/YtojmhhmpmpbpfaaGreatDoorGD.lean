/- Parts of these proofs, laid together. -/
import Derived.Test.YtojmhhmpmpbpfaaGreatDoorGC
import Derived.Test.YtojmhhmpmpbpfaaGreatDoorGA
import Derived.Sort.Row
namespace Sl

theorem open_adv (s : List UInt8) (p v : Int) (b : List UInt8) (q : Nat) (h : openE s p v = (b, q, 0)) : 0 ≤ p ∧ p.toNat < q ∧ q ≤ s.length ∧ 0 ≤ v ∧ v ≤ 255 := by
  unfold openE at h
  split at h
  · rename_i h0
    have hl := ends_le s p v h0
    have hd := head_ok s p v (ends_ok s p v _ _ (by rw [← h0])).1
    split at h
    · simp only [Prod.mk.injEq] at h
      omega
    · simp at h
  · rename_i h0; simp at h; exact absurd h.2.2 h0

/- the frames from byte a on: each body, and the place behind it -/
def framesF : Nat → List UInt8 → Nat → Int → List (List UInt8 × Nat)
  | 0, _, _, _ => []
  | f + 1, s, a, v => if a < s.length then (if (openE s a v).2.2 = 0 then ((openE s a v).1, (openE s a v).2.1) :: framesF f s (openE s a v).2.1 v else []) else []
def frames (s : List UInt8) (a : Nat) (v : Int) : List (List UInt8 × Nat) := framesF (s.length - a) s a v
theorem framesF_fuel (f : Nat) : ∀ (g : Nat) (s : List UInt8) (a : Nat) (v : Int), s.length - a ≤ f → s.length - a ≤ g → framesF f s a v = framesF g s a v := by
  induction f with
  | zero =>
    intro g s a v hf hg
    cases g with
    | zero => rfl
    | succ g => rw [framesF, framesF, if_neg (by omega)]
  | succ f ih =>
    intro g s a v hf hg
    cases g with
    | zero => rw [framesF, framesF, if_neg (by omega)]
    | succ g =>
      rw [framesF, framesF]
      by_cases ha : a < s.length
      · rw [if_pos ha, if_pos ha]
        by_cases ho : (openE s a v).2.2 = 0
        · have := open_adv s a v (openE s a v).1 (openE s a v).2.1 (by rw [← ho])
          rw [if_pos ho, if_pos ho, ih g s (openE s a v).2.1 v (by omega) (by omega)]
        · rw [if_neg ho, if_neg ho]
      · rw [if_neg ha, if_neg ha]
theorem frames_end (s : List UInt8) (a : Nat) (v : Int) (h : s.length ≤ a) : frames s a v = [] := by
  unfold frames
  have : s.length - a = 0 := by omega
  rw [this]; rfl
theorem frames_bad (s : List UInt8) (a : Nat) (v : Int) (h : (openE s a v).2.2 ≠ 0) : frames s a v = [] := by
  unfold frames
  cases hn : s.length - a with
  | zero => rfl
  | succ n => rw [framesF, if_neg h]; split <;> rfl
theorem frames_next (s : List UInt8) (a : Nat) (v : Int) (b : List UInt8) (q : Nat) (ha : a < s.length) (h : openE s a v = (b, q, 0)) : frames s a v = (b, q) :: frames s q v := by
  have hq := open_adv s a v b q h
  unfold frames
  obtain ⟨n, hn⟩ : ∃ n, s.length - a = n + 1 := ⟨s.length - a - 1, by omega⟩
  rw [hn, framesF, if_pos ha, h]
  simp only [if_true]
  rw [framesF_fuel n (s.length - q) s q v (by omega) (by omega)]
theorem frames_len (n : Nat) : ∀ (s : List UInt8) (a : Nat) (v : Int), s.length - a ≤ n → (frames s a v).length ≤ s.length - a := by
  induction n with
  | zero => intro s a v h; rw [frames_end s a v (by omega)]; simp
  | succ n ih =>
    intro s a v h
    by_cases ha : a < s.length
    · by_cases ho : (openE s a v).2.2 = 0
      · have hq := open_adv s a v (openE s a v).1 (openE s a v).2.1 (by rw [← ho])
        rw [frames_next s a v _ _ ha (show openE s a v = ((openE s a v).1, (openE s a v).2.1, 0) by rw [← ho])]
        have := ih s (openE s a v).2.1 v (by omega)
        simp only [List.length_cons]; omega
      · rw [frames_bad s a v ho]; simp
    · rw [frames_end s a v (by omega)]; simp
/- where the last of some frames ends -/
def lastEnd (d : Nat) (l : List (List UInt8 × Nat)) : Nat := l.foldl (fun _ x => x.2) d
theorem lastEnd_snoc (d : Nat) (l : List (List UInt8 × Nat)) (x : List UInt8 × Nat) : lastEnd d (l ++ [x]) = x.2 := by simp [lastEnd]
theorem lastEnd_cons (d : Nat) (l : List (List UInt8 × Nat)) (x : List UInt8 × Nat) : lastEnd d (x :: l) = lastEnd x.2 l := rfl
/- cutting: the bodies, the place, the error -/
def cutE (s : List UInt8) (v : Int) : List (List UInt8) × Nat × Nat :=
  ((frames s 0 v).map (·.1), lastEnd 0 (frames s 0 v), if lastEnd 0 (frames s 0 v) = s.length then 0 else (openE s (lastEnd 0 (frames s 0 v)) v).2.2)
theorem lastEnd_le (n : Nat) : ∀ (s : List UInt8) (a : Nat) (v : Int), s.length - a ≤ n → a ≤ s.length → a ≤ lastEnd a (frames s a v) ∧ lastEnd a (frames s a v) ≤ s.length := by
  induction n with
  | zero => intro s a v h h2; rw [frames_end s a v (by omega)]; simp [lastEnd]; omega
  | succ n ih =>
    intro s a v h h2
    by_cases ha : a < s.length
    · by_cases ho : (openE s a v).2.2 = 0
      · have hq := open_adv s a v (openE s a v).1 (openE s a v).2.1 (by rw [← ho])
        rw [frames_next s a v _ _ ha (show openE s a v = ((openE s a v).1, (openE s a v).2.1, 0) by rw [← ho]), lastEnd_cons]
        have := ih s (openE s a v).2.1 v (by omega) (by omega)
        simp only at this ⊢
        omega
      · rw [frames_bad s a v ho]; simp [lastEnd]; omega
    · rw [frames_end s a v (by omega)]; simp [lastEnd]; omega
end Sl
namespace Sl

theorem open_parts (s : List UInt8) (p v : Int) (b : List UInt8) (q : Nat) (h : openE s p v = (b, q, 0)) :
    ∃ f t n, endsE s p v = (f, t, 0) ∧ headE s p v = 0 ∧ Pk.takeNum s (p + 2) = (n, f, 0) ∧ n ≤ 30000 ∧ t = f + n ∧ q = t + 8 ∧ q ≤ s.length ∧ p.toNat + 2 ≤ f ∧
      b = (s.drop f).take n ∧ (s.drop t).take 8 = eight (sum ((s.drop p.toNat).take (t - p.toNat))) := by
  unfold openE at h
  split at h
  · rename_i h0
    obtain ⟨h1, n, h2, h3, h4, h5⟩ := ends_ok s p v (endsE s p v).1 (endsE s p v).2.1 (by rw [← h0])
    have hl := ends_le s p v h0
    split at h
    · rename_i hq
      simp only [Prod.mk.injEq] at h
      refine ⟨_, _, n, by rw [← h0], h1, h2, h3, h4, by omega, by omega, by omega, ?_, hq⟩
      rw [← h.1]; congr 1; omega
    · simp at h
  · rename_i h0; simp at h; exact absurd h.2.2 h0

/- what is opened is sealed as it stood -/
theorem open_form (s : List UInt8) (a : Nat) (v : Int) (b : List UInt8) (q : Nat) (h : openE s a v = (b, q, 0)) :
    b.length ≤ 30000 ∧ 0 ≤ v ∧ v ≤ 255 ∧ a < q ∧ q ≤ s.length ∧ (s.drop a).take (q - a) = frame v.toNat b := by
  have had := open_adv _ _ _ _ _ h
  obtain ⟨f, t, n, h1, h2, h3, h4, h5, h6, h7, h8, h9, h10⟩ := open_parts _ _ _ _ _ h
  have e0 : ((a : Nat) : Int).toNat = a := rfl
  rw [e0] at h8 h10
  obtain ⟨g1, g2, g3, g4⟩ := front_at s a v f t h1
  rw [e0] at g1
  have hn : t - f = n := by omega
  rw [hn] at g1 g2
  refine ⟨by rw [h9, g2]; exact h4, had.2.2.2.1, had.2.2.2.2, by omega, h7, ?_⟩
  have e1 : q - a = (t - a) + 8 := by omega
  rw [e1, List.take_add, List.drop_drop]
  have e2 : a + (t - a) = t := by omega
  rw [e2, g1, ← h9, h10, g1, ← h9]; rfl

theorem open_cut (s : List UInt8) (a m : Nat) (v : Int) (b : List UInt8) (q : Nat) (h : openE s a v = (b, q, 0)) (ham : a < m) (hm : m ≤ s.length) :
    openE (s.take m) a v = if q ≤ m then (b, q, 0) else ([], 0, 10) := by
  have had := open_adv _ _ _ _ _ h
  obtain ⟨f, t, n, h1, h2, h3, h4, h5, h6, h7, h8, h9, h10⟩ := open_parts _ _ _ _ _ h
  obtain ⟨k1, k2, k3, k4, r, k5⟩ := head_ok _ _ _ h2
  have e0 : ((a : Nat) : Int).toNat = a := rfl
  rw [e0] at h8 h10 k5
  have hml : (s.take m).length = m := by simp; omega
  have hd : (s.take m).drop a = (231 :: UInt8.ofNat v.toNat :: r).take (m - a) := by rw [List.drop_take, k5]
  by_cases hm1 : m = a + 1
  · have hh : headE (s.take m) a v = 10 := by
      unfold headE
      rw [if_pos ⟨k1, by omega, k2, k3⟩, e0, hd]
      have : m - a = 1 := by omega
      rw [this]; rfl
    rw [open_head _ _ _ _ hh (by decide), if_neg (by omega)]
  · have hh : headE (s.take m) a v = 0 := by
      unfold headE
      rw [if_pos ⟨k1, by omega, k2, k3⟩, e0, hd]
      obtain ⟨j, hj⟩ : ∃ j, m - a = j + 2 := ⟨m - a - 2, by omega⟩
      rw [hj]
      have e8 : (UInt8.ofNat v.toNat).toNat = v.toNat := by simp; omega
      simp only [List.take_succ_cons, if_true, e8]
    have hp : ((a : Int) + 2) = ((a + 2 : Nat) : Int) := by omega
    rw [hp] at h3
    have hc := Pk.takeNum_cut s (a + 2) m n f h3 (by omega)
    rw [← hp] at hc
    by_cases hf : f ≤ m
    · rw [if_pos hf] at hc
      by_cases hq : q ≤ m
      · rw [if_pos hq]
        have hE : endsE (s.take m) a v = (f, t, 0) := by
          unfold endsE
          rw [if_pos hh, hc]
          simp only [if_true]
          rw [if_pos h4, if_pos (by omega), ← h5]
        unfold openE
        rw [hE]
        have d1 : ((s.take m).drop t).take 8 = (s.drop t).take 8 := by rw [List.drop_take, List.take_take]; congr 1; omega
        have d2 : ((s.take m).drop a).take (t - a) = (s.drop a).take (t - a) := by rw [List.drop_take, List.take_take]; congr 1; omega
        have d3 : ((s.take m).drop f).take (t - f) = (s.drop f).take n := by rw [List.drop_take, List.take_take]; congr 1; omega
        simp only [e0, d1, d2, d3, if_true]
        rw [if_pos h10, ← h9, ← h6]
      · rw [if_neg hq]
        have hE : endsE (s.take m) a v = (0, 0, 10) := by
          unfold endsE
          rw [if_pos hh, hc]
          simp only [if_true]
          rw [if_pos h4, if_neg (by omega)]
        unfold openE; rw [hE]; rfl
    · rw [if_neg hf] at hc
      have hE : endsE (s.take m) a v = (0, 0, 10) := by
        unfold endsE
        rw [if_pos hh, hc]; rfl
      rw [if_neg (by omega)]
      unfold openE; rw [hE]; rfl

theorem open_whole (P R b : List UInt8) (v : Nat) (hv : v ≤ 255) (hb : b.length ≤ 30000) :
    openE (P ++ (frame v b ++ R)) P.length v = (b, P.length + (frame v b).length, 0) := by
  have hfl := frame_len v b
  have hS : P ++ (frame v b ++ R) = (P ++ [231, UInt8.ofNat v]) ++ (Pk.num b.length ++ (b ++ (eight (sum (front v b)) ++ R))) := by
    simp [frame, front, Pk.text]
  have hl : (P ++ (frame v b ++ R)).length = P.length + (frame v b).length + R.length := by simp; omega
  have e0 : ((P.length : Nat) : Int).toNat = P.length := rfl
  have e1 : ((v : Nat) : Int).toNat = v := rfl
  have hd : (P ++ (frame v b ++ R)).drop P.length = frame v b ++ R := by simp
  have hh : headE (P ++ (frame v b ++ R)) P.length v = 0 := by
    unfold headE
    rw [if_pos ⟨by omega, by omega, by omega, by omega⟩, e0, hd]
    have e8 : (UInt8.ofNat v).toNat = v := by simp; omega
    simp [frame, front, e8]
  have ht : Pk.takeNum (P ++ (frame v b ++ R)) ((P.length : Int) + 2) = (b.length, P.length + 2 + (Pk.num b.length).length, 0) := by
    have hp : ((P.length : Int) + 2) = (((P ++ [231, UInt8.ofNat v]).length : Nat) : Int) := by simp
    rw [hS, hp, Pk.takeNum_at _ _ _ (by omega)]
    simp
  have hE : endsE (P ++ (frame v b ++ R)) P.length v = (P.length + 2 + (Pk.num b.length).length, P.length + 2 + (Pk.num b.length).length + b.length, 0) := by
    unfold endsE
    rw [if_pos hh, ht]
    simp only [if_true]
    rw [if_pos hb, if_pos (by omega)]
  have hfr := front_len v b
  have d1 : (P ++ (frame v b ++ R)).drop (P.length + 2 + (Pk.num b.length).length + b.length) = eight (sum (front v b)) ++ R := by
    have : P ++ (frame v b ++ R) = (P ++ front v b) ++ (eight (sum (front v b)) ++ R) := by simp [frame]
    rw [this]
    exact List.drop_left' (by simp; omega)
  have d2 : ((P ++ (frame v b ++ R)).drop P.length).take (P.length + 2 + (Pk.num b.length).length + b.length - P.length) = front v b := by
    rw [hd]
    have : frame v b ++ R = front v b ++ (eight (sum (front v b)) ++ R) := by simp [frame]
    rw [this]
    exact List.take_left' (by omega)
  have d3 : ((P ++ (frame v b ++ R)).drop (P.length + 2 + (Pk.num b.length).length)).take (P.length + 2 + (Pk.num b.length).length + b.length - (P.length + 2 + (Pk.num b.length).length)) = b := by
    have : P ++ (frame v b ++ R) = (P ++ [231, UInt8.ofNat v] ++ Pk.num b.length) ++ (b ++ (eight (sum (front v b)) ++ R)) := by simp [frame, front, Pk.text]
    rw [this, List.drop_left' (by simp; omega)]
    exact List.take_left' (by omega)
  unfold openE
  rw [hE]
  simp only [e0, if_true, d1, d2, d3]
  rw [if_pos (List.take_left' (eight_len _))]
  rw [hfl]
  congr 2
  omega

def cat (v : Nat) (l : List (List UInt8)) : List UInt8 := l.flatMap (frame v)
theorem cat_cons (v : Nat) (b : List UInt8) (l : List (List UInt8)) : cat v (b :: l) = frame v b ++ cat v l := by simp [cat]
theorem cat_append (v : Nat) (l m : List (List UInt8)) : cat v (l ++ m) = cat v l ++ cat v m := by simp [cat]
def wholes (v : Nat) : Nat → Nat → List (List UInt8) → List (List UInt8 × Nat)
  | _, _, [] => []
  | a, c, b :: r => if a + (frame v b).length ≤ c then (b, a + (frame v b).length) :: wholes v (a + (frame v b).length) c r else []
theorem frames_wholes (v c : Nat) (hv : v ≤ 255) (l : List (List UInt8)) : ∀ (P : List UInt8), (∀ b ∈ l, b.length ≤ 30000) → P.length ≤ c → c ≤ (P ++ cat v l).length →
    frames ((P ++ cat v l).take c) P.length v = wholes v P.length c l ∧
    (lastEnd P.length (wholes v P.length c l) = c ∨ (openE ((P ++ cat v l).take c) (lastEnd P.length (wholes v P.length c l)) v).2.2 = 10) := by
  induction l with
  | nil =>
    intro P _ h1 h2
    have : P.length = c := by simp [cat] at h2; omega
    exact ⟨frames_end _ _ _ (by simp; omega), Or.inl this⟩
  | cons b r ih =>
    intro P hg h1 h2
    have hl : ((P ++ cat v (b :: r)).take c).length = c := by rw [List.length_take]; omega
    have hf := frame_len v b
    by_cases hc : P.length = c
    · have hw : wholes v P.length c (b :: r) = [] := by rw [wholes, if_neg (by omega)]
      rw [hw]
      exact ⟨frames_end _ _ _ (by omega), Or.inl hc⟩
    · have ho := open_whole P (cat v r) b v hv (hg b (by simp))
      have ho2 := open_cut (P ++ cat v (b :: r)) P.length c v b (P.length + (frame v b).length) (by rw [cat_cons]; exact ho) (by omega) h2
      by_cases hq : P.length + (frame v b).length ≤ c
      · rw [if_pos hq] at ho2
        rw [frames_next _ _ _ _ _ (by omega) ho2, wholes, if_pos hq]
        have e : P ++ cat v (b :: r) = (P ++ frame v b) ++ cat v r := by rw [cat_cons]; simp
        have el : (P ++ frame v b).length = P.length + (frame v b).length := by simp
        have := ih (P ++ frame v b) (fun x hx => hg x (by simp [hx])) (by omega) (by rw [← e]; exact h2)
        rw [← e, el] at this
        rw [this.1]
        exact ⟨rfl, by rw [lastEnd_cons]; exact this.2⟩
      · rw [if_neg hq] at ho2
        have hw : wholes v P.length c (b :: r) = [] := by rw [wholes, if_neg hq]
        rw [hw]
        exact ⟨frames_bad _ _ _ (by rw [ho2]; decide), Or.inr (by show (openE _ P.length v).2.2 = 10; rw [ho2])⟩
theorem wholes_at (v c : Nat) (l : List (List UInt8)) : ∀ (a n : Nat), n ≤ l.length → a + (cat v (l.take n)).length ≤ c ∨ n = 0 → (n = l.length ∨ c < a + (cat v (l.take (n + 1))).length) →
    (wholes v a c l).map (·.1) = l.take n ∧ lastEnd a (wholes v a c l) = a + (cat v (l.take n)).length := by
  induction l with
  | nil =>
    intro a n h1 _ _
    have : n = 0 := by simpa using h1
    subst this
    simp [wholes, lastEnd, cat]
  | cons b r ih =>
    intro a n h1 h2 h3
    cases n with
    | zero =>
      have h4 : c < a + (frame v b).length := by
        rcases h3 with h | h
        · simp at h
        · simpa [cat] using h
      rw [wholes, if_neg (by omega)]
      simp [lastEnd, cat]
    | succ n =>
      have e1 : cat v ((b :: r).take (n + 1)) = frame v b ++ cat v (r.take n) := by rw [List.take_succ_cons, cat_cons]
      have e2 : cat v ((b :: r).take (n + 1 + 1)) = frame v b ++ cat v (r.take (n + 1)) := by rw [List.take_succ_cons, cat_cons]
      rw [e1, List.length_append] at h2
      rw [e2, List.length_append] at h3
      have h5 : a + (frame v b).length ≤ c := by omega
      rw [wholes, if_pos h5, e1, List.length_append, lastEnd_cons]
      have := ih (a + (frame v b).length) n (by simpa using h1) (by omega) (by
        rcases h3 with h | h
        · left; simpa using h
        · right; omega)
      rw [this.2]
      refine ⟨?_, by omega⟩
      simp [this.1]
theorem cut_cat (v c n : Nat) (hv : v ≤ 255) (l : List (List UInt8)) (hg : ∀ b ∈ l, b.length ≤ 30000) (hc : c ≤ (cat v l).length) (h1 : n ≤ l.length) (h2 : (cat v (l.take n)).length ≤ c ∨ n = 0) (h3 : n = l.length ∨ c < (cat v (l.take (n + 1))).length) :
    cutE ((cat v l).take c) v = (l.take n, (cat v (l.take n)).length, if (cat v (l.take n)).length < c then 10 else 0) := by
  obtain ⟨w1, w2⟩ := frames_wholes v c hv l [] hg (by simp) (by simpa using hc)
  obtain ⟨w3, w4⟩ := wholes_at v c l 0 n h1 (by omega) (by omega)
  simp only [List.nil_append, List.length_nil, Nat.zero_add] at w1 w2 w3 w4
  have hl : ((cat v l).take c).length = c := by rw [List.length_take]; omega
  have e0 : ((0 : Nat) : Int) = 0 := rfl
  have hle : (cat v (l.take n)).length ≤ c := by
    rcases h2 with h | h
    · exact h
    · subst h; simp [cat]
  unfold cutE
  rw [hl, w1, w3, w4]
  congr 2
  by_cases hlt : (cat v (l.take n)).length = c
  · rw [if_pos hlt, if_neg (by omega)]
  · rw [if_neg hlt, if_pos (by omega)]
    rw [w4] at w2
    rcases w2 with h | h
    · exact absurd h hlt
    · exact h

/- what is cut is sealed as it stood -/
theorem frames_form (n : Nat) : ∀ (s : List UInt8) (a : Nat) (v : Int), s.length - a ≤ n → a ≤ s.length →
    (∀ x ∈ frames s a v, x.1.length ≤ 30000 ∧ 0 ≤ v ∧ v ≤ 255) ∧ s.take (lastEnd a (frames s a v)) = s.take a ++ cat v.toNat ((frames s a v).map (·.1)) := by
  induction n with
  | zero => intro s a v h h2; rw [frames_end s a v (by omega)]; simp [lastEnd, cat]
  | succ n ih =>
    intro s a v h h2
    by_cases ha : a < s.length
    · by_cases ho : (openE s a v).2.2 = 0
      · obtain ⟨f1, f2, f3, f4, f5, f6⟩ := open_form s a v (openE s a v).1 (openE s a v).2.1 (by rw [← ho])
        rw [frames_next s a v _ _ ha (show openE s a v = ((openE s a v).1, (openE s a v).2.1, 0) by rw [← ho]), lastEnd_cons]
        obtain ⟨i1, i2⟩ := ih s (openE s a v).2.1 v (by omega) (by omega)
        refine ⟨?_, ?_⟩
        · intro x hx
          rcases List.mem_cons.1 hx with rfl | hx
          · exact ⟨f1, f2, f3⟩
          · exact i1 x hx
        · simp only at i2 ⊢
          rw [i2, List.map_cons, cat_cons, ← f6, ← List.append_assoc]
          congr 1
          have : (openE s a v).2.1 = a + ((openE s a v).2.1 - a) := by omega
          rw [this, List.take_add]
          congr 2
          omega
      · rw [frames_bad s a v ho]; simp [lastEnd, cat]
    · rw [frames_end s a v (by omega)]; simp [lastEnd, cat]
end Sl
namespace Sl

theorem head_two (s : List UInt8) (p v : Int) : headE s p v = 2 ↔ ¬ (0 ≤ p ∧ p ≤ s.length ∧ 0 ≤ v ∧ v ≤ 255) := by
  unfold headE
  constructor
  · intro h hc
    rw [if_pos hc] at h
    split at h
    · cases h
    · split at h
      · split at h
        · cases h
        · split at h <;> cases h
      · cases h
  · intro h; rw [if_neg h]
theorem open_two (s : List UInt8) (p v : Int) (h : (openE s p v).2.2 = 2) : ¬ (0 ≤ p ∧ p ≤ s.length ∧ 0 ≤ v ∧ v ≤ 255) := by
  rw [← head_two]
  by_cases hh : headE s p v = 0
  · exfalso
    obtain ⟨h1, h2, h3, h4, r, h5⟩ := head_ok _ _ _ hh
    have hE : (endsE s p v).2.2 ≠ 2 := by
      have ht : (Pk.takeNum s (p + 2)).2.2 ≠ 2 := by
        unfold Pk.takeNum
        rw [if_pos ⟨by omega, by omega⟩]
        have := Pk.take_spec (s.drop (p + 2).toNat)
        simp only
        rcases this with h | h | h
        · omega
        · rw [h]; decide
        · rw [h]; decide
      unfold endsE
      rw [if_pos hh]
      split
      · split
        · split <;> simp
        · simp
      · simpa using ht
    unfold openE at h
    split at h
    · split at h <;> simp at h
    · exact hE h
  · have := open_head s p v _ rfl hh
    rw [this] at h
    exact h
theorem frames_stop (n : Nat) : ∀ (s : List UInt8) (a : Nat) (v : Int), s.length - a ≤ n → a ≤ s.length → lastEnd a (frames s a v) = s.length ∨ (openE s (lastEnd a (frames s a v)) v).2.2 ≠ 0 := by
  induction n with
  | zero => intro s a v h h2; rw [frames_end s a v (by omega)]; left; simp [lastEnd]; omega
  | succ n ih =>
    intro s a v h h2
    by_cases ha : a < s.length
    · by_cases ho : (openE s a v).2.2 = 0
      · have hq := open_adv s a v (openE s a v).1 (openE s a v).2.1 (by rw [← ho])
        rw [frames_next s a v _ _ ha (show openE s a v = ((openE s a v).1, (openE s a v).2.1, 0) by rw [← ho]), lastEnd_cons]
        exact ih s (openE s a v).2.1 v (by omega) (by omega)
      · rw [frames_bad s a v ho]; right; exact ho
    · rw [frames_end s a v (by omega)]; left; simp [lastEnd]; omega
theorem cut_facts (s : List UInt8) (v : Int) (l : List (List UInt8)) (q e : Nat) (h : cutE s v = (l, q, e)) :
    q ≤ s.length ∧ l.length ≤ s.length ∧ (e = 2 → l = [] ∧ q = 0 ∧ (v < 0 ∨ 255 < v)) ∧ (e = 0 ↔ q = s.length) ∧ (∀ b ∈ l, b.length ≤ 30000 ∧ 0 ≤ v ∧ v ≤ 255) ∧ s.take q = cat v.toNat l := by
  have hle := lastEnd_le _ s 0 v (Nat.le_refl _) (by omega)
  have hst := frames_stop _ s 0 v (Nat.le_refl _) (by omega)
  have hfo := frames_form _ s 0 v (Nat.le_refl _) (by omega)
  have hln := frames_len _ s 0 v (Nat.le_refl _)
  unfold cutE at h
  simp only [Prod.mk.injEq] at h
  obtain ⟨h1, h2, h3⟩ := h
  subst h1 h2
  refine ⟨hle.2, by simpa using hln, ?_, ?_, ?_, by simpa using hfo.2⟩
  · intro he
    rw [he] at h3
    by_cases hq : lastEnd 0 (frames s 0 v) = s.length
    · rw [if_pos hq] at h3; cases h3
    · rw [if_neg hq] at h3
      have h4 := open_two _ _ _ h3
      have hv : ¬ (0 ≤ v ∧ v ≤ 255) := by
        intro hv; apply h4; exact ⟨by omega, by omega, hv.1, hv.2⟩
      have hb : frames s 0 v = [] := by
        apply frames_bad
        have : headE s ((0 : Nat) : Int) v = 2 := (head_two _ _ _).2 (by intro hc; exact hv hc.2.2)
        rw [open_head _ _ _ 2 this (by decide)]; decide
      rw [hb]
      exact ⟨rfl, rfl, by omega⟩
  · constructor
    · intro he
      rw [he] at h3
      rcases hst with h | h
      · exact h
      · by_cases hq : lastEnd 0 (frames s 0 v) = s.length
        · exact hq
        · rw [if_neg hq] at h3; exact absurd h3 h
    · intro hq; rw [if_pos hq] at h3; exact h3.symm
  · intro b hb
    obtain ⟨x, hx, rfl⟩ := List.mem_map.1 hb
    exact hfo.1 x hx
end Sl
namespace Go.Proofs.YtojmhhmpmpbpfaaGreatDoor
open Go.RowKit

set_option maxRecDepth 100000 in
theorem isVersion_any (v : Int) (w : World) : Calls Tryz.prog 92 #[.int .i64 v] w fun e w' => e = .returned (.bool (decide (0 ≤ v ∧ v ≤ 255))) ∧ w' = w := by
  by_cases h0 : 0 ≤ v
  · by_cases h1 : v ≤ 255
    · have e : decide (0 ≤ v ∧ v ≤ 255) = true := decide_eq_true ⟨h0, h1⟩
      rw [e]; clear e
      go_enter Tryz.func92, Tryz.ntmps92
      go_wp2
      go_ret
      exact ⟨rfl, rfl⟩
    · have e : decide (0 ≤ v ∧ v ≤ 255) = false := decide_eq_false (by omega)
      rw [e]; clear e
      have h1' : decide (v ≤ 255) = false := decide_eq_false h1
      go_enter Tryz.func92, Tryz.ntmps92
      go_wp2
      go_ret
      exact ⟨rfl, rfl⟩
  · have e : decide (0 ≤ v ∧ v ≤ 255) = false := decide_eq_false (by omega)
    rw [e]; clear e
    have h0' : decide (0 ≤ v) = false := decide_eq_false h0
    go_enter Tryz.func92, Tryz.ntmps92
    go_wp2
    go_ret
    exact ⟨rfl, rfl⟩

abbrev encB : UInt8 → Value := fun b => .int .u8 (b.toNat : Int)
def laidA (n k : Nat) : Array UInt8 := Array.ofFn (n := 8) fun i => if i.val < k then UInt8.ofNat (n / 256 ^ i.val % 256) else 0
theorem laidA_size (n k : Nat) : (laidA n k).size = 8 := by simp [laidA]
theorem laidA_more (n k : Nat) : (laidA n k).setIfInBounds k (UInt8.ofNat (n / 256 ^ k % 256)) = laidA n (k + 1) := by
  apply Array.ext
  · simp [laidA]
  · intro i h1 h2
    rw [Array.getElem_setIfInBounds (by simpa using h1)]
    simp only [laidA, Array.getElem_ofFn]
    by_cases h : k = i
    · subst h; simp
    · rw [if_neg h]
      have : (i < k) = (i < k + 1) := by apply propext; omega
      simp only [this]
theorem laidA_get (n k i : Nat) (h : i < (laidA n k).size) : (laidA n k)[i] = if i < k then UInt8.ofNat (n / 256 ^ i % 256) else 0 := by
  simp only [laidA, Array.getElem_ofFn]
theorem laidA_full (n : Nat) : (laidA n 8).toList = Sl.eight n := by
  apply List.ext_getElem
  · simp [laidA_size, Sl.eight_len]
  · intro i h1 h2
    rw [Sl.eight_get]
    have hi : i < 8 := by simpa [laidA_size] using h1
    rw [Array.getElem_toList, laidA_get, if_pos hi]

abbrev w8z (w : World) : World := w.alloc (.cells #[.int .u8 0, .int .u8 0, .int .u8 0, .int .u8 0, .int .u8 0, .int .u8 0, .int .u8 0, .int .u8 0] 156)
theorem w8z_holds (n : Nat) (w : World) : Sort.Holds encB (w8z w) w.heap.size 0 (laidA n 0) := by
  intro j hj
  rw [laidA_size] at hj
  have e : (laidA n 0)[j]! = 0 := by
    rw [getElem!_pos _ j (by rw [laidA_size]; exact hj)]; simp [laidA]
  rw [e]
  match j, hj with
  | 0, _ => exact ⟨by simp, by simp⟩
  | 1, _ => exact ⟨by simp, by simp⟩
  | 2, _ => exact ⟨by simp, by simp⟩
  | 3, _ => exact ⟨by simp, by simp⟩
  | 4, _ => exact ⟨by simp, by simp⟩
  | 5, _ => exact ⟨by simp, by simp⟩
  | 6, _ => exact ⟨by simp, by simp⟩
  | 7, _ => exact ⟨by simp, by simp⟩
theorem putRow_gr {w w1 : World} {d : Array UInt8} (g : Gr w w1) : Gr w (Sort.putRow encB w1 w.heap.size 0 d) := by
  refine ⟨⟨g.below.os, g.below.tape, g.below.output, by simpa using g.size, ?_⟩⟩
  intro k hk
  rw [← g.below.block k hk]
  simp [Sort.putRow, Sort.mapBlock, Array.getElem?_modify]
  omega

set_option maxHeartbeats 400000 in
set_option maxRecDepth 100000 in
theorem laidSum_any (n : Nat) (w : World) :
    Calls Tryz.prog 80 #[.int .u64 n] w fun e w' => e = .returned (.string ⟨(Sl.eight n).toArray⟩) ∧ Gr w w' := by
  have HZ := w8z_holds n w
  go_enter Tryz.func80, Tryz.ntmps80
  go_wp2
  go_loopw [5] (fun i wr => ∃ k : Nat, k ≤ 8 ∧ i = .int .i64 k ∧ wr = Sort.putRow encB (w8z w) w.heap.size 0 (laidA n k)) (fun i _ => 8 - (intOf i).toNat)
  case atStart => exact ⟨0, by omega, rfl, (Sort.putRow_self encB _ _ _ _ HZ).symm⟩
  case round =>
    obtain ⟨k, hk, rfl, hwr⟩ := hrel
    have HW : Hid (wr = Sort.putRow encB (w8z w) w.heap.size 0 (laidA n k)) := hwr
    have hH := Sort.holds_putRow encB (w8z w) w.heap.size 0 (laidA n 0) (laidA n k) HZ (by rw [laidA_size, laidA_size])
    rw [← hwr] at hH
    have HH : Hid (Sort.Holds encB wr w.heap.size 0 (laidA n k)) := hH
    clear hwr hH HZ
    by_cases hlt : k < 8
    · have hc := HH.out k (by rw [laidA_size]; exact hlt)
      simp only [Nat.zero_add] at hc
      obtain ⟨hc1, hc2⟩ := hc
      have hb : IntKind.u8.wrap ((n : Int) / 2 ^ (8 * k)) = (((UInt8.ofNat (n / 256 ^ k % 256)).toNat : Nat) : Int) := by
        have e : (2 : Int) ^ (8 * k) = ((256 ^ k : Nat) : Int) := by rw [Int.pow_mul]; simp
        rw [e, IntKind.wrap_u8]
        generalize 256 ^ k = q
        have e2 : (n : Int) / (q : Int) = ((n / q : Nat) : Int) := by simp
        rw [e2]
        generalize n / q = m
        simp
      go_wp2
      go_roundw
      case rel =>
        refine ⟨k + 1, by omega, by go_num, ?_⟩
        have hv : (Value.int .u8 ((n : Int) / 256 ^ k % 256)) = encB (UInt8.ofNat (n / 256 ^ k % 256)) := by
          have e : ((n : Int) / 256 ^ k) = ((n / 256 ^ k : Nat) : Int) := by simp
          rw [e]
          generalize n / 256 ^ k = m
          simp [encB]
        have := Sort.putRow_set encB (w8z w) w.heap.size 0 (laidA n k) k (UInt8.ofNat (n / 256 ^ k % 256)) (by rw [laidA_size]; exact hlt)
        rw [laidA_more, Nat.zero_add, ← HW.out, ← hv] at this
        exact this
      case measure => simp [intOf]; omega
    · have hk8 : k = 8 := by omega
      subst hk8
      have hcv := run_convert_bytes_back (P := Tryz.prog) wr 123 9 5 ⟨w.heap.size, 0, none⟩ 8 (Sl.eight n) Tryz.underlying123 Tryz.underlying5 Tryz.underlying9 (by
        intro j hj
        rw [Sl.eight_len] at hj
        have := (HH.out j (by rw [laidA_size]; exact hj)).1
        rw [getElem!_pos _ j (by rw [laidA_size]; exact hj)] at this
        simp only [Addr.add_lit]
        rw [this]
        simp only [encB, ← laidA_full, Array.getElem_toList])
      rw [Sl.eight_len] at hcv
      clear hlt
      go_wp2
      go_ret
      exact ⟨rfl, by rw [HW.out]; exact putRow_gr (Gr.refl w).alloc⟩
end Go.Proofs.YtojmhhmpmpbpfaaGreatDoor
