
/- A path has no organisation twice; a child's path has one more. -/
import Derived.Test.YtilkfgpcibdikaaIdM
namespace Go.Proofs.Ytilkfgpcibdikaa.Idn

theorem pathB_new (l : List Int) : ∀ seen, pathB seen l = true → ∀ o ∈ l, o ∉ seen := by
  induction l with
  | nil => intro _ _ o ho; simp at ho
  | cons a l ih =>
    intro seen h o ho
    rw [pathB] at h
    simp only [Bool.and_eq_true, Bool.not_eq_true', List.contains_eq_mem, decide_eq_false_iff_not] at h
    rcases List.mem_cons.1 ho with rfl | ho
    · exact h.1.2
    · exact fun x => ih _ h.2 o ho (List.mem_append_left _ x)
theorem pathB_nodup (l : List Int) : ∀ seen, pathB seen l = true → l.Nodup := by
  induction l with
  | nil => intro _ _; exact List.nodup_nil
  | cons a l ih =>
    intro seen h
    rw [pathB] at h
    simp only [Bool.and_eq_true] at h
    refine List.nodup_cons.2 ⟨fun ha => pathB_new l _ h.2 a ha (by simp), ih _ h.2⟩
theorem pathB_snoc (l : List Int) (o : Int) : ∀ seen, pathB seen (l ++ [o]) = true → pathB seen l = true ∧ o ∉ seen ∧ o ∉ l := by
  induction l with
  | nil =>
    intro seen h
    exact ⟨rfl, pathB_new _ _ h o (by simp), by simp⟩
  | cons a l ih =>
    intro seen h
    rw [List.cons_append, pathB] at h
    simp only [Bool.and_eq_true] at h
    obtain ⟨h1, h2, h3⟩ := ih _ h.2
    refine ⟨by rw [pathB, h1]; simp only [Bool.and_true, Bool.and_eq_true]; exact h.1, fun x => h2 (List.mem_append_left _ x), ?_⟩
    intro x
    rcases List.mem_cons.1 x with rfl | x
    · exact h2 (by simp)
    · exact h3 x
theorem path_snoc (r s o : Int) (L : List (Int × Int)) : path r (L ++ [(s, o)]) = path r L ++ [o] := by simp [path]
theorem may_snoc {r n s o : Int} {L : List (Int × Int)} (h : mayB r n (L ++ [(s, o)]) = true) : mayB r n L = true ∧ o ∉ path r L := by
  unfold mayB at h ⊢
  simp only [Bool.and_eq_true, decide_eq_true_eq, List.length_append, List.length_singleton] at h ⊢
  rw [path_snoc] at h
  obtain ⟨h1, _, h3⟩ := pathB_snoc _ _ _ h.2
  have h4 : stepsB L = true := by
    have := h.1.2
    unfold stepsB at this ⊢
    rw [List.all_append] at this
    simp only [Bool.and_eq_true] at this
    exact this.1
  exact ⟨⟨⟨⟨⟨h.1.1.1.1, h.1.1.1.2⟩, by omega⟩, h4⟩, h1⟩, h3⟩
theorem may_nodup {r n : Int} {L : List (Int × Int)} (h : mayB r n L = true) : (path r L).Nodup := by
  unfold mayB at h
  simp only [Bool.and_eq_true] at h
  exact pathB_nodup _ _ h.2
theorem nodup_get {l : List Int} (h : l.Nodup) {i j : Nat} (hi : i < l.length) (hj : j < l.length) (hne : i ≠ j) : (l[i] == l[j]) = false := by
  have hp := List.pairwise_iff_getElem.1 h
  rw [beq_eq_false_iff_ne]
  rcases Nat.lt_or_gt_of_ne hne with hl | hl
  · exact hp i j hi hj hl
  · exact fun e => hp j i hj hi hl e.symm
end Go.Proofs.Ytilkfgpcibdikaa.Idn
