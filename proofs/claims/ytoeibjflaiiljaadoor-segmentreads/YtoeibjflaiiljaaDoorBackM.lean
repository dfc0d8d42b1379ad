
/- Plain laws: frames, one behind the other, are cut again; of a beginning those that stand whole; what is cut is sealed as it stood. -/
import Derived.Test.YtoeibjflaiiljaaDoorCutM
namespace Sl

theorem open_parts (s : List UInt8) (p v : Int) (b : List UInt8) (q : Nat) (h : openE s p v = (b, q, 0)) :
    ∃ f t n, endsE s p v = (f, t, 0) ∧ headE s p v = 0 ∧ Pk.takeNum s (p + 2) = (n, f, 0) ∧ n ≤ 30000 ∧ t = f + n ∧ q = t + 8 ∧ q ≤ s.length ∧ p.toNat + 2 ≤ f ∧
      b = (s.drop f).take n ∧ (s.drop t).take 8 = eight (sum ((s.drop p.toNat).take (t - p.toNat))) := by
  unfold openE at h
  split at h
  · rename_i h0
    obtain ⟨h1, n, h2, h3, h4, h5⟩ := ends_ok s p v (endsE s p v).1 (endsE s p v).2.1 (by rw [← h0])
    have hl := ends_le s p v h0
    split at h
    · rename_i hq
      simp only [Prod.mk.injEq] at h
      refine ⟨_, _, n, by rw [← h0], h1, h2, h3, h4, by omega, by omega, by omega, ?_, hq⟩
      rw [← h.1]; congr 1; omega
    · simp at h
  · rename_i h0; simp at h; exact absurd h.2.2 h0

/- what is opened is sealed as it stood -/
theorem open_form (s : List UInt8) (a : Nat) (v : Int) (b : List UInt8) (q : Nat) (h : openE s a v = (b, q, 0)) :
    b.length ≤ 30000 ∧ 0 ≤ v ∧ v ≤ 255 ∧ a < q ∧ q ≤ s.length ∧ (s.drop a).take (q - a) = frame v.toNat b := by
  have had := open_adv _ _ _ _ _ h
  obtain ⟨f, t, n, h1, h2, h3, h4, h5, h6, h7, h8, h9, h10⟩ := open_parts _ _ _ _ _ h
  have e0 : ((a : Nat) : Int).toNat = a := rfl
  rw [e0] at h8 h10
  obtain ⟨g1, g2, g3, g4⟩ := front_at s a v f t h1
  rw [e0] at g1
  have hn : t - f = n := by omega
  rw [hn] at g1 g2
  refine ⟨by rw [h9, g2]; exact h4, had.2.2.2.1, had.2.2.2.2, by omega, h7, ?_⟩
  have e1 : q - a = (t - a) + 8 := by omega
  rw [e1, List.take_add, List.drop_drop]
  have e2 : a + (t - a) = t := by omega
  rw [e2, g1, ← h9, h10, g1, ← h9]; rfl

theorem open_cut (s : List UInt8) (a m : Nat) (v : Int) (b : List UInt8) (q : Nat) (h : openE s a v = (b, q, 0)) (ham : a < m) (hm : m ≤ s.length) :
    openE (s.take m) a v = if q ≤ m then (b, q, 0) else ([], 0, 10) := by
  have had := open_adv _ _ _ _ _ h
  obtain ⟨f, t, n, h1, h2, h3, h4, h5, h6, h7, h8, h9, h10⟩ := open_parts _ _ _ _ _ h
  obtain ⟨k1, k2, k3, k4, r, k5⟩ := head_ok _ _ _ h2
  have e0 : ((a : Nat) : Int).toNat = a := rfl
  rw [e0] at h8 h10 k5
  have hml : (s.take m).length = m := by simp; omega
  have hd : (s.take m).drop a = (231 :: UInt8.ofNat v.toNat :: r).take (m - a) := by rw [List.drop_take, k5]
  by_cases hm1 : m = a + 1
  · have hh : headE (s.take m) a v = 10 := by
      unfold headE
      rw [if_pos ⟨k1, by omega, k2, k3⟩, e0, hd]
      have : m - a = 1 := by omega
      rw [this]; rfl
    rw [open_head _ _ _ _ hh (by decide), if_neg (by omega)]
  · have hh : headE (s.take m) a v = 0 := by
      unfold headE
      rw [if_pos ⟨k1, by omega, k2, k3⟩, e0, hd]
      obtain ⟨j, hj⟩ : ∃ j, m - a = j + 2 := ⟨m - a - 2, by omega⟩
      rw [hj]
      have e8 : (UInt8.ofNat v.toNat).toNat = v.toNat := by simp; omega
      simp only [List.take_succ_cons, if_true, e8]
    have hp : ((a : Int) + 2) = ((a + 2 : Nat) : Int) := by omega
    rw [hp] at h3
    have hc := Pk.takeNum_cut s (a + 2) m n f h3 (by omega)
    rw [← hp] at hc
    by_cases hf : f ≤ m
    · rw [if_pos hf] at hc
      by_cases hq : q ≤ m
      · rw [if_pos hq]
        have hE : endsE (s.take m) a v = (f, t, 0) := by
          unfold endsE
          rw [if_pos hh, hc]
          simp only [if_true]
          rw [if_pos h4, if_pos (by omega), ← h5]
        unfold openE
        rw [hE]
        have d1 : ((s.take m).drop t).take 8 = (s.drop t).take 8 := by rw [List.drop_take, List.take_take]; congr 1; omega
        have d2 : ((s.take m).drop a).take (t - a) = (s.drop a).take (t - a) := by rw [List.drop_take, List.take_take]; congr 1; omega
        have d3 : ((s.take m).drop f).take (t - f) = (s.drop f).take n := by rw [List.drop_take, List.take_take]; congr 1; omega
        simp only [e0, d1, d2, d3, if_true]
        rw [if_pos h10, ← h9, ← h6]
      · rw [if_neg hq]
        have hE : endsE (s.take m) a v = (0, 0, 10) := by
          unfold endsE
          rw [if_pos hh, hc]
          simp only [if_true]
          rw [if_pos h4, if_neg (by omega)]
        unfold openE; rw [hE]; rfl
    · rw [if_neg hf] at hc
      have hE : endsE (s.take m) a v = (0, 0, 10) := by
        unfold endsE
        rw [if_pos hh, hc]; rfl
      rw [if_neg (by omega)]
      unfold openE; rw [hE]; rfl

theorem open_whole (P R b : List UInt8) (v : Nat) (hv : v ≤ 255) (hb : b.length ≤ 30000) :
    openE (P ++ (frame v b ++ R)) P.length v = (b, P.length + (frame v b).length, 0) := by
  have hfl := frame_len v b
  have hS : P ++ (frame v b ++ R) = (P ++ [231, UInt8.ofNat v]) ++ (Pk.num b.length ++ (b ++ (eight (sum (front v b)) ++ R))) := by
    simp [frame, front, Pk.text]
  have hl : (P ++ (frame v b ++ R)).length = P.length + (frame v b).length + R.length := by simp; omega
  have e0 : ((P.length : Nat) : Int).toNat = P.length := rfl
  have e1 : ((v : Nat) : Int).toNat = v := rfl
  have hd : (P ++ (frame v b ++ R)).drop P.length = frame v b ++ R := by simp
  have hh : headE (P ++ (frame v b ++ R)) P.length v = 0 := by
    unfold headE
    rw [if_pos ⟨by omega, by omega, by omega, by omega⟩, e0, hd]
    have e8 : (UInt8.ofNat v).toNat = v := by simp; omega
    simp [frame, front, e8]
  have ht : Pk.takeNum (P ++ (frame v b ++ R)) ((P.length : Int) + 2) = (b.length, P.length + 2 + (Pk.num b.length).length, 0) := by
    have hp : ((P.length : Int) + 2) = (((P ++ [231, UInt8.ofNat v]).length : Nat) : Int) := by simp
    rw [hS, hp, Pk.takeNum_at _ _ _ (by omega)]
    simp
  have hE : endsE (P ++ (frame v b ++ R)) P.length v = (P.length + 2 + (Pk.num b.length).length, P.length + 2 + (Pk.num b.length).length + b.length, 0) := by
    unfold endsE
    rw [if_pos hh, ht]
    simp only [if_true]
    rw [if_pos hb, if_pos (by omega)]
  have hfr := front_len v b
  have d1 : (P ++ (frame v b ++ R)).drop (P.length + 2 + (Pk.num b.length).length + b.length) = eight (sum (front v b)) ++ R := by
    have : P ++ (frame v b ++ R) = (P ++ front v b) ++ (eight (sum (front v b)) ++ R) := by simp [frame]
    rw [this]
    exact List.drop_left' (by simp; omega)
  have d2 : ((P ++ (frame v b ++ R)).drop P.length).take (P.length + 2 + (Pk.num b.length).length + b.length - P.length) = front v b := by
    rw [hd]
    have : frame v b ++ R = front v b ++ (eight (sum (front v b)) ++ R) := by simp [frame]
    rw [this]
    exact List.take_left' (by omega)
  have d3 : ((P ++ (frame v b ++ R)).drop (P.length + 2 + (Pk.num b.length).length)).take (P.length + 2 + (Pk.num b.length).length + b.length - (P.length + 2 + (Pk.num b.length).length)) = b := by
    have : P ++ (frame v b ++ R) = (P ++ [231, UInt8.ofNat v] ++ Pk.num b.length) ++ (b ++ (eight (sum (front v b)) ++ R)) := by simp [frame, front, Pk.text]
    rw [this, List.drop_left' (by simp; omega)]
    exact List.take_left' (by omega)
  unfold openE
  rw [hE]
  simp only [e0, if_true, d1, d2, d3]
  rw [if_pos (List.take_left' (eight_len _))]
  rw [hfl]
  congr 2
  omega

def cat (v : Nat) (l : List (List UInt8)) : List UInt8 := l.flatMap (frame v)
theorem cat_cons (v : Nat) (b : List UInt8) (l : List (List UInt8)) : cat v (b :: l) = frame v b ++ cat v l := by simp [cat]
theorem cat_append (v : Nat) (l m : List (List UInt8)) : cat v (l ++ m) = cat v l ++ cat v m := by simp [cat]
def wholes (v : Nat) : Nat → Nat → List (List UInt8) → List (List UInt8 × Nat)
  | _, _, [] => []
  | a, c, b :: r => if a + (frame v b).length ≤ c then (b, a + (frame v b).length) :: wholes v (a + (frame v b).length) c r else []
theorem frames_wholes (v c : Nat) (hv : v ≤ 255) (l : List (List UInt8)) : ∀ (P : List UInt8), (∀ b ∈ l, b.length ≤ 30000) → P.length ≤ c → c ≤ (P ++ cat v l).length →
    frames ((P ++ cat v l).take c) P.length v = wholes v P.length c l ∧
    (lastEnd P.length (wholes v P.length c l) = c ∨ (openE ((P ++ cat v l).take c) (lastEnd P.length (wholes v P.length c l)) v).2.2 = 10) := by
  induction l with
  | nil =>
    intro P _ h1 h2
    have : P.length = c := by simp [cat] at h2; omega
    exact ⟨frames_end _ _ _ (by simp; omega), Or.inl this⟩
  | cons b r ih =>
    intro P hg h1 h2
    have hl : ((P ++ cat v (b :: r)).take c).length = c := by rw [List.length_take]; omega
    have hf := frame_len v b
    by_cases hc : P.length = c
    · have hw : wholes v P.length c (b :: r) = [] := by rw [wholes, if_neg (by omega)]
      rw [hw]
      exact ⟨frames_end _ _ _ (by omega), Or.inl hc⟩
    · have ho := open_whole P (cat v r) b v hv (hg b (by simp))
      have ho2 := open_cut (P ++ cat v (b :: r)) P.length c v b (P.length + (frame v b).length) (by rw [cat_cons]; exact ho) (by omega) h2
      by_cases hq : P.length + (frame v b).length ≤ c
      · rw [if_pos hq] at ho2
        rw [frames_next _ _ _ _ _ (by omega) ho2, wholes, if_pos hq]
        have e : P ++ cat v (b :: r) = (P ++ frame v b) ++ cat v r := by rw [cat_cons]; simp
        have el : (P ++ frame v b).length = P.length + (frame v b).length := by simp
        have := ih (P ++ frame v b) (fun x hx => hg x (by simp [hx])) (by omega) (by rw [← e]; exact h2)
        rw [← e, el] at this
        rw [this.1]
        exact ⟨rfl, by rw [lastEnd_cons]; exact this.2⟩
      · rw [if_neg hq] at ho2
        have hw : wholes v P.length c (b :: r) = [] := by rw [wholes, if_neg hq]
        rw [hw]
        exact ⟨frames_bad _ _ _ (by rw [ho2]; decide), Or.inr (by show (openE _ P.length v).2.2 = 10; rw [ho2])⟩
theorem wholes_at (v c : Nat) (l : List (List UInt8)) : ∀ (a n : Nat), n ≤ l.length → a + (cat v (l.take n)).length ≤ c ∨ n = 0 → (n = l.length ∨ c < a + (cat v (l.take (n + 1))).length) →
    (wholes v a c l).map (·.1) = l.take n ∧ lastEnd a (wholes v a c l) = a + (cat v (l.take n)).length := by
  induction l with
  | nil =>
    intro a n h1 _ _
    have : n = 0 := by simpa using h1
    subst this
    simp [wholes, lastEnd, cat]
  | cons b r ih =>
    intro a n h1 h2 h3
    cases n with
    | zero =>
      have h4 : c < a + (frame v b).length := by
        rcases h3 with h | h
        · simp at h
        · simpa [cat] using h
      rw [wholes, if_neg (by omega)]
      simp [lastEnd, cat]
    | succ n =>
      have e1 : cat v ((b :: r).take (n + 1)) = frame v b ++ cat v (r.take n) := by rw [List.take_succ_cons, cat_cons]
      have e2 : cat v ((b :: r).take (n + 1 + 1)) = frame v b ++ cat v (r.take (n + 1)) := by rw [List.take_succ_cons, cat_cons]
      rw [e1, List.length_append] at h2
      rw [e2, List.length_append] at h3
      have h5 : a + (frame v b).length ≤ c := by omega
      rw [wholes, if_pos h5, e1, List.length_append, lastEnd_cons]
      have := ih (a + (frame v b).length) n (by simpa using h1) (by omega) (by
        rcases h3 with h | h
        · left; simpa using h
        · right; omega)
      rw [this.2]
      refine ⟨?_, by omega⟩
      simp [this.1]
theorem cut_cat (v c n : Nat) (hv : v ≤ 255) (l : List (List UInt8)) (hg : ∀ b ∈ l, b.length ≤ 30000) (hc : c ≤ (cat v l).length) (h1 : n ≤ l.length) (h2 : (cat v (l.take n)).length ≤ c ∨ n = 0) (h3 : n = l.length ∨ c < (cat v (l.take (n + 1))).length) :
    cutE ((cat v l).take c) v = (l.take n, (cat v (l.take n)).length, if (cat v (l.take n)).length < c then 10 else 0) := by
  obtain ⟨w1, w2⟩ := frames_wholes v c hv l [] hg (by simp) (by simpa using hc)
  obtain ⟨w3, w4⟩ := wholes_at v c l 0 n h1 (by omega) (by omega)
  simp only [List.nil_append, List.length_nil, Nat.zero_add] at w1 w2 w3 w4
  have hl : ((cat v l).take c).length = c := by rw [List.length_take]; omega
  have e0 : ((0 : Nat) : Int) = 0 := rfl
  have hle : (cat v (l.take n)).length ≤ c := by
    rcases h2 with h | h
    · exact h
    · subst h; simp [cat]
  unfold cutE
  rw [hl, w1, w3, w4]
  congr 2
  by_cases hlt : (cat v (l.take n)).length = c
  · rw [if_pos hlt, if_neg (by omega)]
  · rw [if_neg hlt, if_pos (by omega)]
    rw [w4] at w2
    rcases w2 with h | h
    · exact absurd h hlt
    · exact h

/- what is cut is sealed as it stood -/
theorem frames_form (n : Nat) : ∀ (s : List UInt8) (a : Nat) (v : Int), s.length - a ≤ n → a ≤ s.length →
    (∀ x ∈ frames s a v, x.1.length ≤ 30000 ∧ 0 ≤ v ∧ v ≤ 255) ∧ s.take (lastEnd a (frames s a v)) = s.take a ++ cat v.toNat ((frames s a v).map (·.1)) := by
  induction n with
  | zero => intro s a v h h2; rw [frames_end s a v (by omega)]; simp [lastEnd, cat]
  | succ n ih =>
    intro s a v h h2
    by_cases ha : a < s.length
    · by_cases ho : (openE s a v).2.2 = 0
      · obtain ⟨f1, f2, f3, f4, f5, f6⟩ := open_form s a v (openE s a v).1 (openE s a v).2.1 (by rw [← ho])
        rw [frames_next s a v _ _ ha (show openE s a v = ((openE s a v).1, (openE s a v).2.1, 0) by rw [← ho]), lastEnd_cons]
        obtain ⟨i1, i2⟩ := ih s (openE s a v).2.1 v (by omega) (by omega)
        refine ⟨?_, ?_⟩
        · intro x hx
          rcases List.mem_cons.1 hx with rfl | hx
          · exact ⟨f1, f2, f3⟩
          · exact i1 x hx
        · simp only at i2 ⊢
          rw [i2, List.map_cons, cat_cons, ← f6, ← List.append_assoc]
          congr 1
          have : (openE s a v).2.1 = a + ((openE s a v).2.1 - a) := by omega
          rw [this, List.take_add]
          congr 2
          omega
      · rw [frames_bad s a v ho]; simp [lastEnd, cat]
    · rw [frames_end s a v (by omega)]; simp [lastEnd, cat]
end Sl
