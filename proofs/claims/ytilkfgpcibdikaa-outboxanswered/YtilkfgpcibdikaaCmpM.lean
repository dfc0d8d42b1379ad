
/- Plain mathematics of the order of ids. -/
namespace Go.Proofs.Ytilkfgpcibdikaa.Idn

def cmpI (a b : Int) : Int := if a < b then -1 else if b < a then 1 else 0
def orI (a b : Int) : Int := if a = 0 then b else a
def cmpP (x y : Int × Int) : Int := orI (cmpI x.1 y.1) (cmpI x.2 y.2)
def cmpH : List (Int × Int) → List (Int × Int) → Int
  | [], [] => 0
  | [], _ :: _ => -1
  | _ :: _, [] => 1
  | x :: s, y :: t => orI (cmpP x y) (cmpH s t)
def cmpE (r n : Int) (L : List (Int × Int)) (r' n' : Int) (L' : List (Int × Int)) : Int := orI (cmpI r r') (orI (cmpI n n') (cmpH L L'))

theorem cmpI_zero (a b : Int) : cmpI a b = 0 ↔ a = b := by unfold cmpI; split <;> (try split) <;> omega
theorem cmpI_rng (a b : Int) : cmpI a b = -1 ∨ cmpI a b = 0 ∨ cmpI a b = 1 := by unfold cmpI; split <;> (try split) <;> omega
theorem cmpI_neg (a b : Int) : cmpI b a = - cmpI a b := by unfold cmpI; split <;> (try split) <;> (try split) <;> omega
theorem orI_zero (a b : Int) : orI a b = 0 ↔ a = 0 ∧ b = 0 := by unfold orI; split <;> omega
theorem orI_self_zero (a : Int) : orI 0 a = a := rfl
theorem cmpP_zero (x y : Int × Int) : cmpP x y = 0 ↔ x = y := by
  unfold cmpP; rw [orI_zero, cmpI_zero, cmpI_zero, Prod.ext_iff]
theorem cmpH_zero (s : List (Int × Int)) : ∀ t, cmpH s t = 0 ↔ s = t := by
  induction s with
  | nil => intro t; cases t <;> simp [cmpH]
  | cons x s ih =>
    intro t
    cases t with
    | nil => simp [cmpH]
    | cons y t => rw [cmpH, orI_zero, cmpP_zero, ih, List.cons.injEq]
theorem cmpE_zero (r n : Int) (L : List (Int × Int)) (r' n' : Int) (L' : List (Int × Int)) : cmpE r n L r' n' L' = 0 ↔ r = r' ∧ n = n' ∧ L = L' := by
  unfold cmpE; rw [orI_zero, orI_zero, cmpI_zero, cmpI_zero, cmpH_zero]
end Go.Proofs.Ytilkfgpcibdikaa.Idn
