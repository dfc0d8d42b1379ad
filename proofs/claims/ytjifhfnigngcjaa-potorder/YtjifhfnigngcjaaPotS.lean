/- Plain mathematics of a pot under many acts: what is pending, and what was kept. -/
import Derived.Test.YtjifhfnigngcjaaPotM
namespace Go.Proofs.Ytjifhfnigngcjaa

structure Four where
  kind : Int
  out : Bool
  amt : Int
  wh : Int

namespace Pot
def inS : List Four → Int
  | [] => 0
  | x :: l => sg x.out 0 x.amt + inS l
def outS : List Four → Int
  | [] => 0
  | x :: l => sg x.out x.amt 0 + outS l
theorem in_append (l m : List Four) : inS (l ++ m) = inS l + inS m := by
  induction l with
  | nil => simp [inS]
  | cons x l ih => rw [List.cons_append, inS, inS, ih]; omega
theorem out_append (l m : List Four) : outS (l ++ m) = outS l + outS m := by
  induction l with
  | nil => simp [outS]
  | cons x l ih => rw [List.cons_append, outS, outS, ih]; omega
theorem in_reverse (l : List Four) : inS l.reverse = inS l := by
  induction l with
  | nil => rfl
  | cons x l ih => rw [List.reverse_cons, in_append, inS, inS, ih]; simp [inS]; omega
def Fit (l : List Four) : Prop := ∀ x ∈ l, 1 ≤ x.amt ∧ x.amt ≤ 1000000000000000
theorem in_pos (l : List Four) (h : Fit l) : 0 ≤ inS l ∧ 0 ≤ outS l := by
  induction l with
  | nil => simp [inS, outS]
  | cons x l ih =>
    have h1 := ih (fun y hy => h y (List.mem_cons_of_mem _ hy))
    have h2 := h x List.mem_cons_self
    rw [inS, outS]
    unfold sg
    split <;> omega
theorem part (l : List Four) (k : Nat) (hk : k < l.length) : inS l = inS (l.take k ++ l.drop (k + 1)) + sg l[k].out 0 l[k].amt ∧ outS l = outS (l.take k ++ l.drop (k + 1)) + sg l[k].out l[k].amt 0 := by
  have e : l = l.take k ++ (l[k] :: l.drop (k + 1)) := by rw [← List.drop_eq_getElem_cons hk, List.take_append_drop]
  constructor
  · rw [in_append]
    conv => lhs; rw [e]
    rw [in_append, inS]; omega
  · rw [out_append]
    conv => lhs; rw [e]
    rw [out_append, outS]; omega
theorem fit_part (l : List Four) (k : Nat) (h : Fit l) : Fit (l.take k ++ l.drop (k + 1)) := by
  intro x hx
  rcases List.mem_append.1 hx with hx | hx
  · exact h x (List.mem_of_mem_take hx)
  · exact h x (List.mem_of_mem_drop hx)

/- what holds of a pot that had 'have' at first, of what is pending, and of what was kept -/
structure Inv (first h i o kept : Int) (l : List Four) : Prop where
  ie : i = inS l
  oe : o = outS l
  he : h = first + kept + i - o
  may : mayB h i o = true
  fit : Fit l
theorem Inv.rng {first h i o kept : Int} {l : List Four} (v : Inv first h i o kept l) : 0 ≤ i ∧ i ≤ h ∧ 0 ≤ o ∧ h + o ≤ 1000000000000000 := (may_iff h i o).1 v.may
theorem Inv.start (first : Int) (h0 : 0 ≤ first) (h1 : first ≤ 1000000000000000) : Inv first first 0 0 0 [] :=
  ⟨rfl, rfl, by omega, (may_iff _ _ _).2 (by omega), fun x hx => by cases hx⟩
theorem Inv.keptRng {first h i o kept : Int} {l : List Four} (v : Inv first h i o kept l) (h0 : 0 ≤ first) (h1 : first ≤ 1000000000000000) : -2000000000000000 ≤ kept ∧ kept ≤ 2000000000000000 := by
  have := v.rng
  have := v.he
  omega
theorem do_facts {out : Bool} {h i o a : Int} (he : eDo out h i o a = 0) : (0 ≤ i ∧ i ≤ h ∧ 0 ≤ o ∧ h + o ≤ 1000000000000000) ∧ 1 ≤ a ∧ a ≤ 1000000000000000 ∧ a ≤ sg out (h - i) (1000000000000000 - h - o) := by
  rcases err_cases h i o a (mostDo out h i o) with ⟨_, e2, e3⟩ | ⟨e1, _⟩ | ⟨e1, _⟩
  · obtain ⟨r1, r2, r3⟩ := (arg_iff h i o a).1 e2
    refine ⟨r1, r2, r3, ?_⟩
    have hm := (may_iff h i o).2 r1
    unfold mostDo freeE roomE at e3
    rw [if_pos hm, if_pos hm] at e3
    exact e3
  · unfold eDo at he; rw [e1] at he; cases he
  · unfold eDo at he; rw [e1] at he; cases he
theorem Inv.push {first h i o kept : Int} {l : List Four} (v : Inv first h i o kept l) (x : Four) (he : eDo x.out h i o x.amt = 0) :
    Inv first (sg x.out (h - x.amt) (h + x.amt)) (sg x.out i (i + x.amt)) (sg x.out (o + x.amt) o) kept (l ++ [x]) := by
  obtain ⟨r1, r2, r3, r4⟩ := do_facts he
  have h1 := v.ie
  have h2 := v.oe
  have h3 := v.he
  have h4 : Fit (l ++ [x]) := by
    intro y hy
    rcases List.mem_append.1 hy with hy | hy
    · exact v.fit y hy
    · simp at hy; subst hy; exact ⟨r2, r3⟩
  have h5 : inS (l ++ [x]) = inS l + (sg x.out 0 x.amt + 0) := in_append l [x]
  have h6 : outS (l ++ [x]) = outS l + (sg x.out x.amt 0 + 0) := out_append l [x]
  obtain ⟨kd, b, a, wh⟩ := x
  cases b
  all_goals
    simp only [sg, if_true, Bool.false_eq_true, if_false] at r4 h5 h6 r2 r3 ⊢
    exact ⟨by omega, by omega, by omega, (may_iff _ _ _).2 (by omega), h4⟩
theorem Inv.can {first h i o kept : Int} {l : List Four} (v : Inv first h i o kept l) (k : Nat) (hk : k < l.length) : eUn l[k].out h i o l[k].amt = 0 := by
  have hp := part l k hk
  have hq := in_pos _ (fit_part l k v.fit)
  have hf := v.fit l[k] (List.getElem_mem hk)
  have h1 := v.ie
  have h2 := v.oe
  refine err_ok ((arg_iff _ _ _ _).2 ⟨v.rng, hf⟩) ?_
  generalize l.take k ++ l.drop (k + 1) = m at *
  generalize l[k] = x at *
  obtain ⟨kd, b, a, wh⟩ := x
  cases b
  all_goals
    simp only [sg, mostUn, if_true, Bool.false_eq_true, if_false] at hp hf ⊢
    omega
theorem Inv.undo {first h i o kept : Int} {l : List Four} (v : Inv first h i o kept l) (k : Nat) (hk : k < l.length) :
    Inv first (sg l[k].out (h + l[k].amt) (h - l[k].amt)) (sg l[k].out i (i - l[k].amt)) (sg l[k].out (o - l[k].amt) o) kept (l.take k ++ l.drop (k + 1)) := by
  have hp := part l k hk
  have hq := in_pos _ (fit_part l k v.fit)
  have hf := v.fit l[k] (List.getElem_mem hk)
  have h1 := v.ie
  have h2 := v.oe
  have h3 := v.he
  have h4 := v.rng
  have h5 := fit_part l k v.fit
  generalize l.take k ++ l.drop (k + 1) = m at *
  generalize l[k] = x at *
  obtain ⟨kd, b, a, wh⟩ := x
  cases b
  all_goals
    simp only [sg, if_true, Bool.false_eq_true, if_false] at hp hf ⊢
    exact ⟨by omega, by omega, by omega, (may_iff _ _ _).2 (by omega), h5⟩
theorem Inv.keep {first h i o kept : Int} {l : List Four} (v : Inv first h i o kept l) (k : Nat) (hk : k < l.length) :
    Inv first h (sg l[k].out i (i - l[k].amt)) (sg l[k].out (o - l[k].amt) o) (sg l[k].out (kept - l[k].amt) (kept + l[k].amt)) (l.take k ++ l.drop (k + 1)) := by
  have hp := part l k hk
  have hq := in_pos _ (fit_part l k v.fit)
  have hf := v.fit l[k] (List.getElem_mem hk)
  have h1 := v.ie
  have h2 := v.oe
  have h3 := v.he
  have h4 := v.rng
  have h5 := fit_part l k v.fit
  generalize l.take k ++ l.drop (k + 1) = m at *
  generalize l[k] = x at *
  obtain ⟨kd, b, a, wh⟩ := x
  cases b
  all_goals
    simp only [sg, if_true, Bool.false_eq_true, if_false] at hp hf ⊢
    exact ⟨by omega, by omega, by omega, (may_iff _ _ _).2 (by omega), h5⟩
end Pot
end Go.Proofs.Ytjifhfnigngcjaa
