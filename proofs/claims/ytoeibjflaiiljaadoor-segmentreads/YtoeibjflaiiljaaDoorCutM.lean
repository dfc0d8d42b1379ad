
/- Plain functions that say what frames stand in bytes, and their laws; nothing of the program. -/
import Derived.Test.YtoeibjflaiiljaaDoorSealM
namespace Sl

theorem open_adv (s : List UInt8) (p v : Int) (b : List UInt8) (q : Nat) (h : openE s p v = (b, q, 0)) : 0 ≤ p ∧ p.toNat < q ∧ q ≤ s.length ∧ 0 ≤ v ∧ v ≤ 255 := by
  unfold openE at h
  split at h
  · rename_i h0
    have hl := ends_le s p v h0
    have hd := head_ok s p v (ends_ok s p v _ _ (by rw [← h0])).1
    split at h
    · simp only [Prod.mk.injEq] at h
      omega
    · simp at h
  · rename_i h0; simp at h; exact absurd h.2.2 h0

/- the frames from byte a on: each body, and the place behind it -/
def framesF : Nat → List UInt8 → Nat → Int → List (List UInt8 × Nat)
  | 0, _, _, _ => []
  | f + 1, s, a, v => if a < s.length then (if (openE s a v).2.2 = 0 then ((openE s a v).1, (openE s a v).2.1) :: framesF f s (openE s a v).2.1 v else []) else []
def frames (s : List UInt8) (a : Nat) (v : Int) : List (List UInt8 × Nat) := framesF (s.length - a) s a v
theorem framesF_fuel (f : Nat) : ∀ (g : Nat) (s : List UInt8) (a : Nat) (v : Int), s.length - a ≤ f → s.length - a ≤ g → framesF f s a v = framesF g s a v := by
  induction f with
  | zero =>
    intro g s a v hf hg
    cases g with
    | zero => rfl
    | succ g => rw [framesF, framesF, if_neg (by omega)]
  | succ f ih =>
    intro g s a v hf hg
    cases g with
    | zero => rw [framesF, framesF, if_neg (by omega)]
    | succ g =>
      rw [framesF, framesF]
      by_cases ha : a < s.length
      · rw [if_pos ha, if_pos ha]
        by_cases ho : (openE s a v).2.2 = 0
        · have := open_adv s a v (openE s a v).1 (openE s a v).2.1 (by rw [← ho])
          rw [if_pos ho, if_pos ho, ih g s (openE s a v).2.1 v (by omega) (by omega)]
        · rw [if_neg ho, if_neg ho]
      · rw [if_neg ha, if_neg ha]
theorem frames_end (s : List UInt8) (a : Nat) (v : Int) (h : s.length ≤ a) : frames s a v = [] := by
  unfold frames
  have : s.length - a = 0 := by omega
  rw [this]; rfl
theorem frames_bad (s : List UInt8) (a : Nat) (v : Int) (h : (openE s a v).2.2 ≠ 0) : frames s a v = [] := by
  unfold frames
  cases hn : s.length - a with
  | zero => rfl
  | succ n => rw [framesF, if_neg h]; split <;> rfl
theorem frames_next (s : List UInt8) (a : Nat) (v : Int) (b : List UInt8) (q : Nat) (ha : a < s.length) (h : openE s a v = (b, q, 0)) : frames s a v = (b, q) :: frames s q v := by
  have hq := open_adv s a v b q h
  unfold frames
  obtain ⟨n, hn⟩ : ∃ n, s.length - a = n + 1 := ⟨s.length - a - 1, by omega⟩
  rw [hn, framesF, if_pos ha, h]
  simp only [if_true]
  rw [framesF_fuel n (s.length - q) s q v (by omega) (by omega)]
theorem frames_len (n : Nat) : ∀ (s : List UInt8) (a : Nat) (v : Int), s.length - a ≤ n → (frames s a v).length ≤ s.length - a := by
  induction n with
  | zero => intro s a v h; rw [frames_end s a v (by omega)]; simp
  | succ n ih =>
    intro s a v h
    by_cases ha : a < s.length
    · by_cases ho : (openE s a v).2.2 = 0
      · have hq := open_adv s a v (openE s a v).1 (openE s a v).2.1 (by rw [← ho])
        rw [frames_next s a v _ _ ha (show openE s a v = ((openE s a v).1, (openE s a v).2.1, 0) by rw [← ho])]
        have := ih s (openE s a v).2.1 v (by omega)
        simp only [List.length_cons]; omega
      · rw [frames_bad s a v ho]; simp
    · rw [frames_end s a v (by omega)]; simp
/- where the last of some frames ends -/
def lastEnd (d : Nat) (l : List (List UInt8 × Nat)) : Nat := l.foldl (fun _ x => x.2) d
theorem lastEnd_snoc (d : Nat) (l : List (List UInt8 × Nat)) (x : List UInt8 × Nat) : lastEnd d (l ++ [x]) = x.2 := by simp [lastEnd]
theorem lastEnd_cons (d : Nat) (l : List (List UInt8 × Nat)) (x : List UInt8 × Nat) : lastEnd d (x :: l) = lastEnd x.2 l := rfl
/- cutting: the bodies, the place, the error -/
def cutE (s : List UInt8) (v : Int) : List (List UInt8) × Nat × Nat :=
  ((frames s 0 v).map (·.1), lastEnd 0 (frames s 0 v), if lastEnd 0 (frames s 0 v) = s.length then 0 else (openE s (lastEnd 0 (frames s 0 v)) v).2.2)
theorem lastEnd_le (n : Nat) : ∀ (s : List UInt8) (a : Nat) (v : Int), s.length - a ≤ n → a ≤ s.length → a ≤ lastEnd a (frames s a v) ∧ lastEnd a (frames s a v) ≤ s.length := by
  induction n with
  | zero => intro s a v h h2; rw [frames_end s a v (by omega)]; simp [lastEnd]; omega
  | succ n ih =>
    intro s a v h h2
    by_cases ha : a < s.length
    · by_cases ho : (openE s a v).2.2 = 0
      · have hq := open_adv s a v (openE s a v).1 (openE s a v).2.1 (by rw [← ho])
        rw [frames_next s a v _ _ ha (show openE s a v = ((openE s a v).1, (openE s a v).2.1, 0) by rw [← ho]), lastEnd_cons]
        have := ih s (openE s a v).2.1 v (by omega) (by omega)
        simp only at this ⊢
        omega
      · rw [frames_bad s a v ho]; simp [lastEnd]; omega
    · rw [frames_end s a v (by omega)]; simp [lastEnd]; omega
end Sl
