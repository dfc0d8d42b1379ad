/- The order of ids is total. -/
import Derived.Test.YtmidlcipbpchgaaDoorCmpM
namespace Go.Proofs.YtmidlcipbpchgaaDoor.Idn

theorem orI_neg (a b : Int) : orI (-a) (-b) = - orI a b := by unfold orI; split <;> split <;> omega
theorem cmpP_neg (x y : Int × Int) : cmpP y x = - cmpP x y := by
  unfold cmpP; rw [cmpI_neg x.1 y.1, cmpI_neg x.2 y.2, orI_neg]
theorem cmpH_neg (s : List (Int × Int)) : ∀ t, cmpH t s = - cmpH s t := by
  induction s with
  | nil => intro t; cases t <;> simp [cmpH]
  | cons x s ih =>
    intro t
    cases t with
    | nil => simp [cmpH]
    | cons y t => rw [cmpH, cmpH, cmpP_neg x y, ih t, orI_neg]
theorem cmpE_neg (r n : Int) (L : List (Int × Int)) (r' n' : Int) (L' : List (Int × Int)) : cmpE r' n' L' r n L = - cmpE r n L r' n' L' := by
  unfold cmpE; rw [cmpI_neg r r', cmpI_neg n n', cmpH_neg L L', orI_neg, orI_neg]
theorem orI_rng {a b : Int} (ha : a = -1 ∨ a = 0 ∨ a = 1) (hb : b = -1 ∨ b = 0 ∨ b = 1) : orI a b = -1 ∨ orI a b = 0 ∨ orI a b = 1 := by unfold orI; split <;> assumption
theorem cmpP_rng (x y : Int × Int) : cmpP x y = -1 ∨ cmpP x y = 0 ∨ cmpP x y = 1 := orI_rng (cmpI_rng _ _) (cmpI_rng _ _)
theorem cmpH_rng (s : List (Int × Int)) : ∀ t, cmpH s t = -1 ∨ cmpH s t = 0 ∨ cmpH s t = 1 := by
  induction s with
  | nil => intro t; cases t <;> simp [cmpH]
  | cons x s ih =>
    intro t
    cases t with
    | nil => simp [cmpH]
    | cons y t => rw [cmpH]; exact orI_rng (cmpP_rng _ _) (ih t)
theorem cmpE_rng (r n : Int) (L : List (Int × Int)) (r' n' : Int) (L' : List (Int × Int)) : cmpE r n L r' n' L' = -1 ∨ cmpE r n L r' n' L' = 0 ∨ cmpE r n L r' n' L' = 1 :=
  orI_rng (cmpI_rng _ _) (orI_rng (cmpI_rng _ _) (cmpH_rng _ _))

/- a comparison that can be chained: no more, and less at one of the two -/
def Chain (x y z : Int) : Prop := (x ≤ 0 → y ≤ 0 → z ≤ 0) ∧ (x < 0 → y ≤ 0 → z < 0) ∧ (x ≤ 0 → y < 0 → z < 0)
theorem cmpI_chain (a b c : Int) : Chain (cmpI a b) (cmpI b c) (cmpI a c) := by
  unfold Chain cmpI
  refine ⟨?_, ?_, ?_⟩ <;> (repeat' split) <;> omega
theorem or_chain {x y z x' y' z' : Int} (h : Chain x y z) (k : Chain x' y' z') : Chain (orI x x') (orI y y') (orI z z') := by
  unfold Chain at *
  unfold orI
  obtain ⟨h1, h2, h3⟩ := h
  obtain ⟨k1, k2, k3⟩ := k
  refine ⟨?_, ?_, ?_⟩ <;> (repeat' split) <;> omega
theorem cmpP_chain (a b c : Int × Int) : Chain (cmpP a b) (cmpP b c) (cmpP a c) := or_chain (cmpI_chain _ _ _) (cmpI_chain _ _ _)
theorem cmpH_chain (s : List (Int × Int)) : ∀ t u, Chain (cmpH s t) (cmpH t u) (cmpH s u) := by
  induction s with
  | nil =>
    intro t u
    cases t <;> cases u <;> simp [cmpH, Chain]
  | cons x s ih =>
    intro t u
    cases t with
    | nil => cases u <;> simp [cmpH, Chain]
    | cons y t =>
      cases u with
      | nil => simp [cmpH, Chain]
      | cons z u =>
        rw [cmpH, cmpH, cmpH]
        exact or_chain (cmpP_chain x y z) (ih t u)
theorem cmpE_chain (r n : Int) (L : List (Int × Int)) (r2 n2 : Int) (L2 : List (Int × Int)) (r3 n3 : Int) (L3 : List (Int × Int)) : Chain (cmpE r n L r2 n2 L2) (cmpE r2 n2 L2 r3 n3 L3) (cmpE r n L r3 n3 L3) :=
  or_chain (cmpI_chain _ _ _) (or_chain (cmpI_chain _ _ _) (cmpH_chain _ _ _))
theorem cmpH_snoc (s : List (Int × Int)) (h : Int × Int) : cmpH s (s ++ [h]) = -1 := by
  induction s with
  | nil => rfl
  | cons x s ih => rw [List.cons_append, cmpH, (cmpP_zero x x).2 rfl, ih]; rfl
theorem cmpE_snoc (r n : Int) (s : List (Int × Int)) (h : Int × Int) : cmpE r n s r n (s ++ [h]) = -1 := by
  unfold cmpE; rw [(cmpI_zero r r).2 rfl, (cmpI_zero n n).2 rfl, cmpH_snoc]; rfl
theorem cmpE_self (r n : Int) (s : List (Int × Int)) : cmpE r n s r n s = 0 := (cmpE_zero _ _ _ _ _ _).2 ⟨rfl, rfl, rfl⟩
end Go.Proofs.YtmidlcipbpchgaaDoor.Idn
