
/- Plain mathematics of windows: which numbers were taken; what Take, All and Missing answer; nothing of the program. -/
namespace Go.Proofs.Ytdgjgpcfpkpnlaa.Wn

structure Wd where
  low : Int
  seen : List Int
/- rising, above p, at most hi -/
def rise (p hi : Int) : List Int → Bool
  | [] => true
  | n :: r => decide (p < n) && decide (n ≤ hi) && rise n hi r
def may (w : Wd) : Bool := decide (0 ≤ w.low ∧ w.low ≤ 1000000000) && rise (w.low + 1) (w.low + 16) w.seen
def has (w : Wd) (n : Int) : Bool := decide (n ∈ w.seen) || decide (1 ≤ n ∧ n ≤ w.low)
def Up (l : List Int) : Prop := l.Pairwise (· < ·)
theorem rise_iff : ∀ (l : List Int) (p hi : Int), rise p hi l = true ↔ Up l ∧ ∀ n ∈ l, p < n ∧ n ≤ hi
  | [], p, hi => by simp [rise, Up]
  | x :: r, p, hi => by
    have ih := rise_iff r x hi
    simp only [rise, Bool.and_eq_true, decide_eq_true_eq, ih, Up, List.pairwise_cons, List.mem_cons]
    constructor
    · rintro ⟨⟨h1, h2⟩, h3, h4⟩
      refine ⟨⟨fun y hy => (h4 y hy).1, h3⟩, ?_⟩
      rintro n (rfl | hn)
      · exact ⟨h1, h2⟩
      · have := h4 n hn; exact ⟨by omega, this.2⟩
    · rintro ⟨⟨h1, h2⟩, h3⟩
      have hx := h3 x (Or.inl rfl)
      exact ⟨hx, h2, fun n hn => ⟨h1 n hn, (h3 n (Or.inr hn)).2⟩⟩
theorem may_iff (w : Wd) : may w = true ↔ (0 ≤ w.low ∧ w.low ≤ 1000000000) ∧ Up w.seen ∧ ∀ n ∈ w.seen, w.low + 1 < n ∧ n ≤ w.low + 16 := by
  unfold may
  rw [Bool.and_eq_true, decide_eq_true_eq, rise_iff]
theorem has_iff (w : Wd) (n : Int) : has w n = true ↔ n ∈ w.seen ∨ (1 ≤ n ∧ n ≤ w.low) := by
  simp [has]
/- two rising rows of the same numbers are one -/
theorem up_ext : ∀ (a b : List Int), Up a → Up b → (∀ n, n ∈ a ↔ n ∈ b) → a = b
  | [], [], _, _, _ => rfl
  | [], y :: s, _, _, h => by have := (h y).2 (by simp); cases this
  | x :: r, [], _, _, h => by have := (h x).1 (by simp); cases this
  | x :: r, y :: s, ha, hb, h => by
    obtain ⟨ha1, ha2⟩ := List.pairwise_cons.1 ha
    obtain ⟨hb1, hb2⟩ := List.pairwise_cons.1 hb
    have hxy : x = y := by
      have h1 := (h x).1 (by simp)
      have h2 := (h y).2 (by simp)
      rcases List.mem_cons.1 h1 with e | e
      · exact e
      · rcases List.mem_cons.1 h2 with e2 | e2
        · exact e2.symm
        · have := hb1 x e; have := ha1 y e2; omega
    subst hxy
    rw [up_ext r s ha2 hb2 (fun n => ?_)]
    constructor
    · intro hn
      rcases List.mem_cons.1 ((h n).1 (List.mem_cons_of_mem _ hn)) with e | e
      · have := ha1 n hn; omega
      · exact e
    · intro hn
      rcases List.mem_cons.1 ((h n).2 (List.mem_cons_of_mem _ hn)) with e | e
      · have := hb1 n hn; omega
      · exact e
/- a number is laid into a rising row -/
def ins (q : Int) : List Int → List Int
  | [] => [q]
  | x :: r => if q < x then q :: x :: r else if q = x then x :: r else x :: ins q r
theorem mem_ins (q n : Int) : ∀ l : List Int, n ∈ ins q l ↔ n = q ∨ n ∈ l
  | [] => by simp [ins]
  | x :: r => by
    unfold ins
    split
    · simp
    · split
      · rename_i h1 h2; subst h2; simp
      · simp only [List.mem_cons, mem_ins q n r]
        constructor
        · rintro (h | h | h)
          · exact Or.inr (Or.inl h)
          · exact Or.inl h
          · exact Or.inr (Or.inr h)
        · rintro (h | h | h)
          · exact Or.inr (Or.inl h)
          · exact Or.inl h
          · exact Or.inr (Or.inr h)
theorem up_ins (q : Int) : ∀ l : List Int, Up l → Up (ins q l)
  | [], _ => by simp [ins, Up]
  | x :: r, h => by
    obtain ⟨h1, h2⟩ := List.pairwise_cons.1 h
    unfold ins
    split
    · rename_i hq
      refine List.pairwise_cons.2 ⟨fun y hy => ?_, h⟩
      rcases List.mem_cons.1 hy with rfl | hy
      · exact hq
      · have := h1 y hy; omega
    · split
      · exact h
      · rename_i n1 n2
        refine List.pairwise_cons.2 ⟨fun y hy => ?_, up_ins q r h2⟩
        rcases (mem_ins q y r).1 hy with rfl | hy
        · omega
        · exact h1 y hy
theorem ins_len (q : Int) : ∀ l : List Int, q ∉ l → (ins q l).length = l.length + 1
  | [], _ => rfl
  | x :: r, h => by
    have h1 : q ≠ x := fun e => h (by simp [e])
    have h2 : q ∉ r := fun e => h (by simp [e])
    unfold ins
    split
    · rfl
    · simp [ins_len q r h2]
/- the numbers from a to b -/
def rng (a b : Int) : List Int := (List.range (b + 1 - a).toNat).map (fun i : Nat => a + (i : Int))
theorem mem_rng (a b n : Int) : n ∈ rng a b ↔ a ≤ n ∧ n ≤ b := by
  unfold rng
  simp only [List.mem_map, List.mem_range]
  constructor
  · rintro ⟨i, hi, rfl⟩; omega
  · rintro ⟨h1, h2⟩; exact ⟨(n - a).toNat, by omega, by omega⟩
theorem up_rng (a b : Int) : Up (rng a b) := by
  unfold rng Up
  rw [List.pairwise_map]
  exact List.pairwise_lt_range.imp (fun h => by omega)
theorem len_rng (a b : Int) : (rng a b).length = (b + 1 - a).toNat := by simp [rng]
/- w' has taken just what w has, and q -/
structure Took (w : Wd) (q : Int) (w' : Wd) : Prop where
  low0 : 0 ≤ w'.low
  up : Up w'.seen
  ab : ∀ n ∈ w'.seen, w'.low + 1 < n
  has : ∀ n, has w' n = true ↔ (has w n = true ∨ n = q)
theorem low_le {a b : Wd} (hb : ∀ n ∈ b.seen, b.low + 1 < n) (hb0 : 0 ≤ b.low) (h : ∀ n, has a n = true → has b n = true) : a.low ≤ b.low := by
  by_cases c : a.low ≤ b.low
  · exact c
  · have h1 := h (b.low + 1) ((has_iff _ _).2 (Or.inr ⟨by omega, by omega⟩))
    rcases (has_iff _ _).1 h1 with h2 | h2
    · have := hb _ h2; omega
    · omega
theorem seen_iff {a : Wd} (ha : ∀ n ∈ a.seen, a.low + 1 < n) (n : Int) : n ∈ a.seen ↔ has a n = true ∧ a.low < n := by
  rw [has_iff]
  constructor
  · intro h; exact ⟨Or.inl h, by have := ha n h; omega⟩
  · rintro ⟨h | h, h2⟩
    · exact h
    · omega
theorem took_one {w : Wd} {q : Int} {a b : Wd} (ha : Took w q a) (hb : Took w q b) : a = b := by
  have hab : ∀ n, has a n = true ↔ has b n = true := fun n => (ha.has n).trans (hb.has n).symm
  have h1 := low_le hb.ab hb.low0 (fun n => (hab n).1)
  have h2 := low_le ha.ab ha.low0 (fun n => (hab n).2)
  have e : a.low = b.low := by omega
  have e2 : a.seen = b.seen := up_ext _ _ ha.up hb.up (fun n => by rw [seen_iff ha.ab, seen_iff hb.ab, hab n, e])
  cases a; cases b
  simp only at e e2
  rw [e, e2]
/- Low goes up as long as the next one was taken -/
def up (h : Int → Bool) : Nat → Int → Int
  | 0, l => l
  | f + 1, l => if h (l + 1) = true then up h f (l + 1) else l
theorem up_spec (h : Int → Bool) : ∀ (f : Nat) (l : Int), l ≤ up h f l ∧ up h f l ≤ l + f ∧ (∀ n, l < n → n ≤ up h f l → h n = true) ∧ (up h f l < l + f → h (up h f l + 1) = false)
  | 0, l => ⟨Int.le_refl _, by simp [up], fun n h1 h2 => by simp only [up] at h2; omega, fun h1 => by simp only [up] at h1; omega⟩
  | f + 1, l => by
    have ih := up_spec h f (l + 1)
    unfold up
    by_cases c : h (l + 1) = true
    · rw [if_pos c]
      refine ⟨by omega, by omega, fun n h1 h2 => ?_, fun h1 => ih.2.2.2 (by omega)⟩
      by_cases e : n = l + 1
      · rw [e]; exact c
      · exact ih.2.2.1 n (by omega) h2
    · rw [if_neg c]
      exact ⟨Int.le_refl _, by omega, fun n h1 h2 => by omega, fun _ => by simpa using c⟩
/- the window behind a fresh number, as the document makes it -/
def more (w : Wd) (q : Int) : Wd :=
  ⟨up (fun n => has w n || decide (n = q)) 17 w.low, (rng (up (fun n => has w n || decide (n = q)) 17 w.low + 1) (w.low + 16)).filter (fun n => has w n || decide (n = q))⟩
theorem has_le {w : Wd} (hw : may w = true) {n : Int} (h : has w n = true) : 1 ≤ n ∧ n ≤ w.low + 16 := by
  obtain ⟨h1, _, h3⟩ := (may_iff w).1 hw
  rcases (has_iff _ _).1 h with h | h
  · have := h3 n h; omega
  · omega
theorem more_took {w : Wd} {q : Int} (hw : may w = true) (h1 : 1 ≤ q) (h2 : q ≤ w.low + 16) : Took w q (more w q) := by
  obtain ⟨h0, _, _⟩ := (may_iff w).1 hw
  obtain ⟨s1, s2, s3, s4⟩ := up_spec (fun n => has w n || decide (n = q)) 17 w.low
  have hb : ∀ n, (has w n || decide (n = q)) = true → 1 ≤ n ∧ n ≤ w.low + 16 := by
    intro n hn
    rcases Bool.or_eq_true _ _ ▸ hn with h | h
    · exact has_le hw h
    · have := of_decide_eq_true h; omega
  have hlt : up (fun n => has w n || decide (n = q)) 17 w.low ≤ w.low + 16 := by
    by_cases c : w.low < up (fun n => has w n || decide (n = q)) 17 w.low
    · exact (hb _ (s3 _ c (Int.le_refl _))).2
    · omega
  have hstop := s4 (by omega)
  generalize hL : up (fun n => has w n || decide (n = q)) 17 w.low = L at *
  have hm : more w q = ⟨L, (rng (L + 1) (w.low + 16)).filter (fun n => has w n || decide (n = q))⟩ := by unfold more; rw [hL]
  rw [hm]
  refine ⟨by show 0 ≤ L; omega, (up_rng _ _).filter _, ?_, ?_⟩
  · intro n hn
    obtain ⟨hn1, hn2⟩ := List.mem_filter.1 hn
    have hn3 := (mem_rng _ _ _).1 hn1
    show L + 1 < n
    by_cases e : n = L + 1
    · rw [e] at hn2; have h9 := hstop; rw [show (has w (L + 1) || decide (L + 1 = q)) = true from hn2] at h9; cases h9
    · omega
  · intro n
    rw [has_iff]
    simp only [List.mem_filter, mem_rng, Bool.or_eq_true, decide_eq_true_eq]
    constructor
    · rintro (⟨_, h⟩ | ⟨h3, h4⟩)
      · exact h
      · by_cases c : n ≤ w.low
        · exact Or.inl ((has_iff _ _).2 (Or.inr ⟨h3, c⟩))
        · have := s3 n (by omega) h4
          simpa using this
    · intro h
      have hr := hb n (by simpa using h)
      by_cases c : n ≤ L
      · exact Or.inr ⟨hr.1, c⟩
      · exact Or.inl ⟨⟨by omega, hr.2⟩, h⟩
/- how many were taken -/
def cnt (w : Wd) : Int := w.low + w.seen.length
theorem took_cnt {w : Wd} {q : Int} {a : Wd} (hw : may w = true) (hn : has w q = false) (ha : Took w q a) : cnt a = cnt w + 1 := by
  obtain ⟨h0, hu, hs⟩ := (may_iff w).1 hw
  have row : ∀ x : Wd, 0 ≤ x.low → Up x.seen → (∀ n ∈ x.seen, x.low + 1 < n) → Up (rng 1 x.low ++ x.seen) ∧ (∀ n, n ∈ rng 1 x.low ++ x.seen ↔ has x n = true) ∧ ((rng 1 x.low ++ x.seen).length : Int) = cnt x := by
    intro x h1 h2 h3
    refine ⟨List.pairwise_append.2 ⟨up_rng _ _, h2, fun a ha b hb => ?_⟩, fun n => ?_, ?_⟩
    · have := (mem_rng _ _ _).1 ha; have := h3 b hb; omega
    · rw [List.mem_append, mem_rng, has_iff]
      exact Or.comm
    · rw [List.length_append, len_rng]; unfold cnt; omega
  obtain ⟨w1, w2, w3⟩ := row w h0.1 hu (fun n hn => (hs n hn).1)
  obtain ⟨a1, a2, a3⟩ := row a ha.low0 ha.up ha.ab
  have e : rng 1 a.low ++ a.seen = ins q (rng 1 w.low ++ w.seen) := by
    refine up_ext _ _ a1 (up_ins q _ w1) (fun n => ?_)
    rw [a2, ha.has, mem_ins, w2]
    exact Or.comm
  have hnot : q ∉ rng 1 w.low ++ w.seen := fun h => by rw [(w2 q).1 h] at hn; cases hn
  rw [← a3, ← w3, e, ins_len q _ hnot]
  omega
/- it may be, where Low does not pass its bound -/
theorem took_may {w : Wd} {q : Int} {a : Wd} (hw : may w = true) (h2 : q ≤ w.low + 16) (ha : Took w q a) (hl : a.low ≤ 1000000000) : may a = true := by
  refine (may_iff a).2 ⟨⟨ha.low0, hl⟩, ha.up, fun n hn => ⟨ha.ab n hn, ?_⟩⟩
  have hw0 := (may_iff w).1 hw
  have hle := low_le (a := w) (b := a) ha.ab ha.low0 (fun n hn => (ha.has n).2 (Or.inl hn))
  rcases (ha.has n).1 ((has_iff _ _).2 (Or.inl hn)) with h | h
  · have := has_le hw h; omega
  · omega
theorem took_low {w : Wd} {q : Int} {a : Wd} (ha : Took w q a) : w.low ≤ a.low :=
  low_le ha.ab ha.low0 (fun n hn => (ha.has n).2 (Or.inl hn))
/- Take: the window, whether the number was fresh, the error -/
def take (w : Wd) (q : Int) : Wd × Bool × Int :=
  if may w = true ∧ 1 ≤ q ∧ q ≤ 1000000000 then
    (if w.low + 16 < q then (⟨0, []⟩, false, 180) else if has w q = true then (w, false, 0) else (more w q, true, 0))
  else (⟨0, []⟩, false, 2)
/- All -/
def allF : Wd → Int → List Int → Wd × Int × Int
  | w, n, [] => (w, n, 0)
  | w, n, q :: r => if (take w q).2.2 = 0 then allF (take w q).1 (if (take w q).2.1 = true then n + 1 else n) r else (⟨0, []⟩, 0, (take w q).2.2)
def all (w : Wd) (l : List Int) : Wd × Int × Int := if may w = true then allF w 0 l else (⟨0, []⟩, 0, 2)
/- Missing -/
def last (w : Wd) : Int := w.seen.getLastD 0
def miss (w : Wd) : List Int := if may w = true ∧ w.seen ≠ [] then (rng (w.low + 1) (last w - 1)).filter (fun n => !has w n) else []
end Go.Proofs.Ytdgjgpcfpkpnlaa.Wn
