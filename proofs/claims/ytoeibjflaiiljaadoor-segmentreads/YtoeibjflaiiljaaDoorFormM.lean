
/- Plain laws on what Cut answers. -/
import Derived.Test.YtoeibjflaiiljaaDoorBackM
namespace Sl

theorem head_two (s : List UInt8) (p v : Int) : headE s p v = 2 ↔ ¬ (0 ≤ p ∧ p ≤ s.length ∧ 0 ≤ v ∧ v ≤ 255) := by
  unfold headE
  constructor
  · intro h hc
    rw [if_pos hc] at h
    split at h
    · cases h
    · split at h
      · split at h
        · cases h
        · split at h <;> cases h
      · cases h
  · intro h; rw [if_neg h]
theorem open_two (s : List UInt8) (p v : Int) (h : (openE s p v).2.2 = 2) : ¬ (0 ≤ p ∧ p ≤ s.length ∧ 0 ≤ v ∧ v ≤ 255) := by
  rw [← head_two]
  by_cases hh : headE s p v = 0
  · exfalso
    obtain ⟨h1, h2, h3, h4, r, h5⟩ := head_ok _ _ _ hh
    have hE : (endsE s p v).2.2 ≠ 2 := by
      have ht : (Pk.takeNum s (p + 2)).2.2 ≠ 2 := by
        unfold Pk.takeNum
        rw [if_pos ⟨by omega, by omega⟩]
        have := Pk.take_spec (s.drop (p + 2).toNat)
        simp only
        rcases this with h | h | h
        · omega
        · rw [h]; decide
        · rw [h]; decide
      unfold endsE
      rw [if_pos hh]
      split
      · split
        · split <;> simp
        · simp
      · simpa using ht
    unfold openE at h
    split at h
    · split at h <;> simp at h
    · exact hE h
  · have := open_head s p v _ rfl hh
    rw [this] at h
    exact h
theorem frames_stop (n : Nat) : ∀ (s : List UInt8) (a : Nat) (v : Int), s.length - a ≤ n → a ≤ s.length → lastEnd a (frames s a v) = s.length ∨ (openE s (lastEnd a (frames s a v)) v).2.2 ≠ 0 := by
  induction n with
  | zero => intro s a v h h2; rw [frames_end s a v (by omega)]; left; simp [lastEnd]; omega
  | succ n ih =>
    intro s a v h h2
    by_cases ha : a < s.length
    · by_cases ho : (openE s a v).2.2 = 0
      · have hq := open_adv s a v (openE s a v).1 (openE s a v).2.1 (by rw [← ho])
        rw [frames_next s a v _ _ ha (show openE s a v = ((openE s a v).1, (openE s a v).2.1, 0) by rw [← ho]), lastEnd_cons]
        exact ih s (openE s a v).2.1 v (by omega) (by omega)
      · rw [frames_bad s a v ho]; right; exact ho
    · rw [frames_end s a v (by omega)]; left; simp [lastEnd]; omega
theorem cut_facts (s : List UInt8) (v : Int) (l : List (List UInt8)) (q e : Nat) (h : cutE s v = (l, q, e)) :
    q ≤ s.length ∧ l.length ≤ s.length ∧ (e = 2 → l = [] ∧ q = 0 ∧ (v < 0 ∨ 255 < v)) ∧ (e = 0 ↔ q = s.length) ∧ (∀ b ∈ l, b.length ≤ 30000 ∧ 0 ≤ v ∧ v ≤ 255) ∧ s.take q = cat v.toNat l := by
  have hle := lastEnd_le _ s 0 v (Nat.le_refl _) (by omega)
  have hst := frames_stop _ s 0 v (Nat.le_refl _) (by omega)
  have hfo := frames_form _ s 0 v (Nat.le_refl _) (by omega)
  have hln := frames_len _ s 0 v (Nat.le_refl _)
  unfold cutE at h
  simp only [Prod.mk.injEq] at h
  obtain ⟨h1, h2, h3⟩ := h
  subst h1 h2
  refine ⟨hle.2, by simpa using hln, ?_, ?_, ?_, by simpa using hfo.2⟩
  · intro he
    rw [he] at h3
    by_cases hq : lastEnd 0 (frames s 0 v) = s.length
    · rw [if_pos hq] at h3; cases h3
    · rw [if_neg hq] at h3
      have h4 := open_two _ _ _ h3
      have hv : ¬ (0 ≤ v ∧ v ≤ 255) := by
        intro hv; apply h4; exact ⟨by omega, by omega, hv.1, hv.2⟩
      have hb : frames s 0 v = [] := by
        apply frames_bad
        have : headE s ((0 : Nat) : Int) v = 2 := (head_two _ _ _).2 (by intro hc; exact hv hc.2.2)
        rw [open_head _ _ _ 2 this (by decide)]; decide
      rw [hb]
      exact ⟨rfl, rfl, by omega⟩
  · constructor
    · intro he
      rw [he] at h3
      rcases hst with h | h
      · exact h
      · by_cases hq : lastEnd 0 (frames s 0 v) = s.length
        · exact hq
        · rw [if_neg hq] at h3; exact absurd h3 h
    · intro hq; rw [if_pos hq] at h3; exact h3.symm
  · intro b hb
    obtain ⟨x, hx, rfl⟩ := List.mem_map.1 hb
    exact hfo.1 x hx
end Sl
