
/- Plain mathematics of windows, as the program goes: a number laid into the row, Low that goes on to the first gap, what is missing; nothing of the program. -/
import Derived.Test.YtdgjgpcfpkpnlaaWnM
namespace Go.Proofs.Ytdgjgpcfpkpnlaa.Wn

/- how many of a row are below a number -/
def pos (x : Int) (l : List Int) : Nat := l.countP (· < x)
theorem pos_le (x : Int) (l : List Int) : pos x l ≤ l.length := List.countP_le_length
theorem pos_ins (x : Int) : ∀ l : List Int, Up l → x ∉ l → l.take (pos x l) ++ x :: l.drop (pos x l) = ins x l
  | [], _, _ => rfl
  | y :: r, hu, hx => by
    obtain ⟨h1, h2⟩ := List.pairwise_cons.1 hu
    have hxy : x ≠ y := fun e => hx (by simp [e])
    have hxr : x ∉ r := fun e => hx (by simp [e])
    have ih := pos_ins x r h2 hxr
    unfold ins
    by_cases c : y < x
    · have e : pos x (y :: r) = pos x r + 1 := by unfold pos; rw [List.countP_cons_of_pos (by simpa using c)]
      rw [e, if_neg (by omega), if_neg hxy, ← ih]; rfl
    · have e : pos x (y :: r) = 0 := by
        unfold pos
        rw [List.countP_eq_zero]
        intro z hz
        simp only [decide_eq_true_eq]
        rcases List.mem_cons.1 hz with rfl | hz
        · exact c
        · have := h1 z hz; omega
      rw [e, if_pos (by omega)]; rfl
/- Low goes on to the first gap -/
def gon : Int → List Int → Wd
  | low, [] => ⟨low, []⟩
  | low, n :: r => if n = low + 1 then gon n r else ⟨low, n :: r⟩
theorem gon_spec : ∀ (l : List Int) (low : Int), 0 ≤ low → Up l → (∀ n ∈ l, low < n) →
    low ≤ (gon low l).low ∧ Up (gon low l).seen ∧ (∀ n ∈ (gon low l).seen, (gon low l).low + 1 < n) ∧ ∀ n, has (gon low l) n = true ↔ (n ∈ l ∨ (1 ≤ n ∧ n ≤ low))
  | [], low, h0, hu, hl => ⟨Int.le_refl _, hu, fun n hn => by simp [gon] at hn, fun n => by rw [has_iff]; rfl⟩
  | x :: r, low, h0, hu, hl => by
    obtain ⟨h1, h2⟩ := List.pairwise_cons.1 hu
    have hx := hl x (by simp)
    unfold gon
    by_cases c : x = low + 1
    · rw [if_pos c]
      obtain ⟨i1, i2, i3, i4⟩ := gon_spec r x (by omega) h2 h1
      refine ⟨by omega, i2, i3, fun n => ?_⟩
      rw [i4, List.mem_cons]
      constructor
      · rintro (h | h)
        · exact Or.inl (Or.inr h)
        · by_cases e : n = x
          · exact Or.inl (Or.inl e)
          · exact Or.inr ⟨h.1, by omega⟩
      · rintro ((h | h) | h)
        · exact Or.inr ⟨by omega, by omega⟩
        · exact Or.inl h
        · exact Or.inr ⟨h.1, by omega⟩
    · rw [if_neg c]
      refine ⟨Int.le_refl _, hu, fun n hn => ?_, fun n => by rw [has_iff]⟩
      show low + 1 < n
      rcases List.mem_cons.1 hn with rfl | hn
      · omega
      · have := h1 n hn; omega
theorem gon_more {w : Wd} {q : Int} (hw : may w = true) (h1 : 1 ≤ q) (h2 : q ≤ w.low + 16) (hn : has w q = false) : gon w.low (ins q w.seen) = more w q := by
  obtain ⟨⟨h0, _⟩, hu, hs⟩ := (may_iff w).1 hw
  have hq : ¬ (has w q = true) := by rw [hn]; simp
  rw [has_iff] at hq
  obtain ⟨i1, i2, i3, i4⟩ := gon_spec (ins q w.seen) w.low h0 (up_ins q _ hu) (fun n hm => by
    rcases (mem_ins q n w.seen).1 hm with rfl | hm
    · omega
    · have := hs n hm; omega)
  refine took_one (w := w) (q := q) ⟨by omega, i2, i3, fun n => ?_⟩ (more_took hw h1 h2)
  rw [i4, mem_ins, has_iff]
  constructor
  · rintro ((h | h) | h)
    · exact Or.inr h
    · exact Or.inl (Or.inl h)
    · exact Or.inl (Or.inr h)
  · rintro ((h | h) | h)
    · exact Or.inl (Or.inr h)
    · exact Or.inr h
    · exact Or.inl (Or.inl h)
/- how many a window that may be has seen -/
theorem up_len : ∀ (l : List Int) (a b : Int), Up l → (∀ n ∈ l, a < n ∧ n ≤ b) → l.length ≤ (b - a).toNat
  | [], _, _, _, _ => by simp
  | x :: r, a, b, hu, hl => by
    obtain ⟨h1, h2⟩ := List.pairwise_cons.1 hu
    have hx := hl x (by simp)
    have := up_len r x b h2 (fun n hn => ⟨h1 n hn, (hl n (List.mem_cons_of_mem _ hn)).2⟩)
    rw [List.length_cons]; omega
theorem may_len {w : Wd} (hw : may w = true) : w.seen.length ≤ 15 := by
  obtain ⟨_, hu, hs⟩ := (may_iff w).1 hw
  have := up_len w.seen (w.low + 1) (w.low + 16) hu hs
  omega
/- ranges -/
theorem rng_none {a b : Int} (h : b < a) : rng a b = [] := by unfold rng; rw [show (b + 1 - a).toNat = 0 by omega]; rfl
theorem rng_snoc {a b : Int} (h : a ≤ b) : rng a b = rng a (b - 1) ++ [b] := by
  refine up_ext _ _ (up_rng _ _) ?_ (fun n => ?_)
  · refine List.pairwise_append.2 ⟨up_rng _ _, by simp, fun x hx y hy => ?_⟩
    have := (mem_rng _ _ _).1 hx
    simp at hy; omega
  · rw [List.mem_append, mem_rng, mem_rng, List.mem_singleton]; omega
/- what is missing, as the program goes -/
def mis : Int → List Int → List Int
  | _, [] => []
  | a, n :: r => rng a (n - 1) ++ mis (n + 1) r
def lastE (l : List Int) : Int := l.getLastD 0
theorem last_cons (x : Int) (r : List Int) (h : r ≠ []) : lastE (x :: r) = lastE r := by
  cases r with
  | nil => exact absurd rfl h
  | cons y s => simp [lastE, List.getLastD]
theorem last_mem {l : List Int} (h : l ≠ []) : lastE l ∈ l := by
  cases l with
  | nil => exact absurd rfl h
  | cons x r =>
    show (x :: r).getLastD 0 ∈ _
    rw [List.getLastD_cons]
    cases r with
    | nil => simp
    | cons y s => rw [List.getLastD_eq_getLast?]; simp [List.getLast?_eq_some_getLast]
theorem mis_spec : ∀ (l : List Int) (a : Int), Up l → (∀ n ∈ l, a ≤ n) → Up (mis a l) ∧ ∀ n, n ∈ mis a l ↔ (l ≠ [] ∧ a ≤ n ∧ n < lastE l ∧ n ∉ l)
  | [], a, _, _ => ⟨by simp [mis, Up], fun n => by simp [mis]⟩
  | x :: r, a, hu, hl => by
    obtain ⟨h1, h2⟩ := List.pairwise_cons.1 hu
    have hx := hl x (by simp)
    obtain ⟨i1, i2⟩ := mis_spec r (x + 1) h2 (fun n hn => by have := h1 n hn; omega)
    unfold mis
    refine ⟨List.pairwise_append.2 ⟨up_rng _ _, i1, fun y hy z hz => ?_⟩, fun n => ?_⟩
    · have := (mem_rng _ _ _).1 hy
      have := ((i2 z).1 hz).2.1
      omega
    · rw [List.mem_append, mem_rng, i2, List.mem_cons]
      by_cases c : r = []
      · subst c
        have e : lastE [x] = x := rfl
        rw [e]
        simp only [ne_eq, not_true_eq_false, false_and, or_false, List.not_mem_nil]
        constructor
        · rintro ⟨p1, p2⟩; exact ⟨by simp, by omega, by omega, by omega⟩
        · rintro ⟨_, p1, p2, p3⟩; omega
      · rw [last_cons x r c]
        have hm := h1 _ (last_mem c)
        constructor
        · rintro (⟨p1, p2⟩ | ⟨_, p1, p2, p3⟩)
          · refine ⟨by simp, by omega, by omega, ?_⟩
            rintro (p | p)
            · omega
            · have := h1 n p; omega
          · refine ⟨by simp, by omega, by omega, ?_⟩
            rintro (p | p)
            · omega
            · exact p3 p
        · rintro ⟨_, p1, p2, p3⟩
          by_cases d : n ≤ x - 1
          · exact Or.inl ⟨p1, d⟩
          · exact Or.inr ⟨c, by have : n ≠ x := fun e => p3 (Or.inl e); omega, p2, fun e => p3 (Or.inr e)⟩
theorem mis_miss {w : Wd} (hw : may w = true) : mis (w.low + 1) w.seen = miss w := by
  obtain ⟨⟨h0, _⟩, hu, hs⟩ := (may_iff w).1 hw
  obtain ⟨m1, m2⟩ := mis_spec w.seen (w.low + 1) hu (fun n hn => by have := hs n hn; omega)
  unfold miss
  by_cases c : w.seen = []
  · rw [if_neg (by simp [c]), c]; rfl
  · rw [if_pos ⟨hw, c⟩]
    refine up_ext _ _ m1 ((up_rng _ _).filter _) (fun n => ?_)
    rw [m2, List.mem_filter, mem_rng]
    have e : last w = lastE w.seen := rfl
    rw [e, Bool.not_eq_true']
    constructor
    · rintro ⟨_, p1, p2, p3⟩
      refine ⟨⟨p1, by omega⟩, ?_⟩
      unfold has
      rw [decide_eq_false p3, decide_eq_false (by omega)]; rfl
    · rintro ⟨⟨p1, p2⟩, p3⟩
      refine ⟨c, p1, by omega, fun h => ?_⟩
      rw [(has_iff w n).2 (Or.inl h)] at p3; cases p3
theorem miss_bad {w : Wd} (hw : may w = false) : miss w = [] := by unfold miss; rw [if_neg (by rw [hw]; simp)]
theorem miss_len {w : Wd} (hw : may w = true) : (miss w).length ≤ 16 := by
  obtain ⟨⟨h0, _⟩, hu, hs⟩ := (may_iff w).1 hw
  unfold miss
  split
  · rename_i h
    have hl := hs _ (last_mem h.2)
    have e : last w = lastE w.seen := rfl
    have h1 := List.length_filter_le (fun n => !has w n) (rng (w.low + 1) (last w - 1))
    have h2 := len_rng (w.low + 1) (last w - 1)
    omega
  · simp
end Go.Proofs.Ytdgjgpcfpkpnlaa.Wn
