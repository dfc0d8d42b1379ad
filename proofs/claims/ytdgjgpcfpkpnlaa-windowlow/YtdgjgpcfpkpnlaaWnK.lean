
/- Numbers that are taken one behind the other from nothing on: the plain mathematics. -/
import Derived.Test.YtdgjgpcfpkpnlaaWnN
namespace Go.Proofs.Ytdgjgpcfpkpnlaa.Wn

/- the window has taken just the numbers D -/
structure OnM (V : Wd) (D : List Int) : Prop where
  may : may V = true
  has : ∀ n, has V n = true ↔ n ∈ D
  top : ∀ n ∈ D, n ≤ 1000000000
theorem on_nil : OnM ⟨0, []⟩ [] := by
  refine ⟨by decide, fun n => ?_, by simp⟩
  rw [has_iff]
  simp only [List.not_mem_nil, false_or, iff_false]
  show ¬ (1 ≤ n ∧ n ≤ 0)
  omega
theorem on_step {V : Wd} {D : List Int} (h : OnM V D) (q : Int) :
    ((take V q).2.2 ≠ 0 ∧ (take V q).2.1 = false ∧ q ∉ D) ∨ ((take V q).2.2 = 0 ∧ (take V q).2.1 = false ∧ q ∈ D ∧ (take V q).1 = V)
      ∨ ((take V q).2.2 = 0 ∧ (take V q).2.1 = true ∧ q ∉ D ∧ V.low ≤ (take V q).1.low ∧ OnM (take V q).1 (D ++ [q]) ∧ cnt (take V q).1 = cnt V + 1) := by
  obtain ⟨hm, hh, ht⟩ := h
  have hin : q ∈ D → (1 ≤ q ∧ q ≤ 1000000000) ∧ q ≤ V.low + 16 := fun hq => by
    have := has_le hm ((hh q).2 hq)
    have := ht q hq
    omega
  unfold take
  by_cases c : Wn.may V = true ∧ 1 ≤ q ∧ q ≤ 1000000000
  · rw [if_pos c]
    by_cases f : V.low + 16 < q
    · rw [if_pos f]
      refine Or.inl ⟨by decide, rfl, fun hq => ?_⟩
      have := hin hq
      omega
    · rw [if_neg f]
      by_cases t : Wn.has V q = true
      · rw [if_pos t]
        exact Or.inr (Or.inl ⟨rfl, rfl, (hh q).1 t, rfl⟩)
      · rw [if_neg t]
        have tk := more_took hm c.2.1 (show q ≤ V.low + 16 by omega)
        have hf : Wn.has V q = false := by simpa using t
        have hi : ∀ n, Wn.has (more V q) n = true ↔ n ∈ D ++ [q] := fun n => by rw [tk.has, hh, List.mem_append, List.mem_singleton]
        have htop : ∀ n ∈ D ++ [q], n ≤ 1000000000 := fun n hn => by
          rcases List.mem_append.1 hn with hn | hn
          · exact ht n hn
          · rw [List.mem_singleton] at hn; subst hn; exact c.2.2
        have hlo : (more V q).low ≤ 1000000000 := by
          by_cases z : 1 ≤ (more V q).low
          · exact htop _ ((hi _).1 ((has_iff _ _).2 (Or.inr ⟨z, Int.le_refl _⟩)))
          · omega
        exact Or.inr (Or.inr ⟨rfl, rfl, fun hq => t ((hh q).2 hq), took_low tk, ⟨took_may hm (by omega) tk hlo, hi, htop⟩, took_cnt hm hf tk⟩)
  · rw [if_neg c]
    refine Or.inl ⟨by decide, rfl, fun hq => c ⟨hm, ?_⟩⟩
    have := hin hq
    exact this.1
/- one above Low is fresh; the first that is missing -/
theorem on_next {V : Wd} (hm : may V = true) (hl : V.low < 1000000000) : take V (V.low + 1) = (more V (V.low + 1), true, 0) := by
  obtain ⟨h0, hu, hs⟩ := (may_iff V).1 hm
  have hn : has V (V.low + 1) = false := by
    cases e : has V (V.low + 1) with
    | false => rfl
    | true =>
      rcases (has_iff _ _).1 e with h | h
      · have := hs _ h; omega
      · omega
  unfold take
  rw [if_pos ⟨hm, by omega, by omega⟩, if_neg (by omega), if_neg (by rw [hn]; simp)]
theorem miss_none {V : Wd} (hs : V.seen = []) : miss V = [] := by unfold miss; rw [if_neg (fun h => h.2 hs)]
theorem miss_head {V : Wd} (hm : may V = true) (hs : V.seen ≠ []) : ∃ r, miss V = (V.low + 1) :: r := by
  obtain ⟨h0, hu, hse⟩ := (may_iff V).1 hm
  rw [← mis_miss hm]
  cases hl : V.seen with
  | nil => exact absurd hl hs
  | cons x r =>
    have hx := hse x (by rw [hl]; simp)
    unfold mis
    have e : rng (V.low + 1) (x - 1) = (V.low + 1) :: rng (V.low + 1 + 1) (x - 1) := by
      refine up_ext _ _ (up_rng _ _) (List.pairwise_cons.2 ⟨fun n hn => ?_, up_rng _ _⟩) (fun n => ?_)
      · have := (mem_rng _ _ _).1 hn; omega
      · rw [List.mem_cons, mem_rng, mem_rng]; omega
    exact ⟨_, by rw [e]; rfl⟩
end Go.Proofs.Ytdgjgpcfpkpnlaa.Wn
