/- Plain mathematics of the document's reading of ids: runs of digits, and what they say. -/
import Derived.Test.YtmidlcipbpchgaaDoorBackN
namespace Go.Proofs.YtmidlcipbpchgaaDoor

def isD (b : UInt8) : Bool := decide (48 ≤ b.toNat) && decide (b.toNat ≤ 57)
def numS (l : List UInt8) (k : Nat) : List UInt8 := ((l.drop k).take 6).takeWhile isD
def numV (ds : List UInt8) : Nat := ds.foldl (fun n b => 10 * n + (b.toNat - 48)) 0
def nV (l : List UInt8) (k : Nat) : Int := (numV (numS l k) : Nat)
def nT (l : List UInt8) (k : Nat) : Nat := k + (numS l k).length
def nB (l : List UInt8) (k : Nat) : Bool := decide (0 < (numS l k).length)

theorem numV_snoc (ds : List UInt8) (b : UInt8) : numV (ds ++ [b]) = 10 * numV ds + (b.toNat - 48) := by
  unfold numV; rw [List.foldl_append]; rfl
theorem takeWhile_len {α : Type} (p : α → Bool) (l : List α) : (l.takeWhile p).length ≤ l.length := (List.takeWhile_sublist p).length_le
theorem nT_le (l : List UInt8) (k : Nat) (h : k ≤ l.length) : nT l k ≤ l.length := by
  unfold nT numS
  have h1 := takeWhile_len isD ((l.drop k).take 6)
  rw [List.length_take, List.length_drop] at h1
  omega
theorem while_take (l : List UInt8) : ∀ k, k ≤ l.length → (∀ b ∈ l.take k, isD b = true) → (∀ h : k < l.length, isD l[k] = false) → l.takeWhile isD = l.take k := by
  induction l with
  | nil => intro k _ _ _; simp
  | cons a t ih =>
    intro k hk h1 h2
    cases k with
    | zero =>
      have := h2 (by simp)
      rw [List.takeWhile_cons]
      simp at this
      rw [this]; simp
    | succ k =>
      rw [List.take_succ_cons] at h1 ⊢
      rw [List.takeWhile_cons, h1 a List.mem_cons_self, if_pos rfl, ih k (by simpa using hk) (fun b hb => h1 b (List.mem_cons_of_mem _ hb)) (fun h => by have := h2 (by simpa using h); simpa using this)]
theorem isD_dig (n : Nat) : ∀ b ∈ Lib.decDigits n, isD b = true := fun b hb => by
  have := dig_mem n b hb
  simp [isD, this]
theorem numV_dig (n : Nat) : numV (Lib.decDigits n) = n := by
  induction n using Nat.strongRecOn with
  | _ n ih =>
    rw [Lib.decDigits]
    split
    · next h => unfold numV; simp; omega
    · next h =>
      rw [numV_snoc, ih (n / 10) (by omega)]
      simp; omega
/- a number that stands in a text, between what is none of its digits -/
theorem numS_at (A : List UInt8) (x : Nat) (R : List UInt8) (hx : x < 1000000) (hR : ∀ h : 0 < R.length, isD R[0] = false) : numS (A ++ (Lib.decDigits x ++ R)) A.length = Lib.decDigits x := by
  unfold numS
  rw [List.drop_left]
  have hl : (Lib.decDigits x).length ≤ 6 := digs_len x 5 (by omega)
  have e : (Lib.decDigits x ++ R).take 6 = Lib.decDigits x ++ R.take (6 - (Lib.decDigits x).length) := by
    rw [List.take_append, List.take_of_length_le hl]
  rw [e]
  have := while_take (Lib.decDigits x ++ R.take (6 - (Lib.decDigits x).length)) (Lib.decDigits x).length (by simp) (by rw [List.take_left]; exact isD_dig x) (by
    intro h
    rw [List.getElem_append_right (by omega)]
    simp only [Nat.sub_self]
    rw [List.getElem_take]
    exact hR (by rw [List.length_append, List.length_take] at h; omega))
  rw [this, List.take_left]
theorem num_at (A : List UInt8) (x : Nat) (R l : List UInt8) (hl : l = A ++ (Lib.decDigits x ++ R)) (hx : x < 1000000) (hR : ∀ h : 0 < R.length, isD R[0] = false) (k : Nat) (hk : k = A.length) :
    nV l k = x ∧ nT l k = (A ++ Lib.decDigits x).length ∧ nB l k = true := by
  subst hl hk
  unfold nV nT nB
  rw [numS_at A x R hx hR, numV_dig]
  refine ⟨rfl, by simp, ?_⟩
  have := dig_ne x
  exact decide_eq_true (List.length_pos_iff.2 this)

def loopR (l : List UInt8) : Nat → Nat → Bool → List (Int × Int) → Option (List (Int × Int) × Bool)
  | 0, _, ok, hs => some (hs, ok)
  | f + 1, k, ok, hs =>
    if ok = true ∧ k < l.length then
      if nB l (k + 1) = false ∨ nT l (k + 1) = l.length then none
      else loopR l f (nT l (nT l (k + 1) + 1)) (nB l (nT l (k + 1) + 1)) (hs ++ [(nV l (k + 1), nV l (nT l (k + 1) + 1))])
    else some (hs, ok)
def refI (l : List UInt8) : Option (Int × Int × List (Int × Int) × Bool) :=
  if nB l 0 = false ∨ nT l 0 = l.length then none
  else match loopR l 5 (nT l (nT l 0 + 1)) (nB l (nT l 0 + 1)) [] with
    | none => none
    | some (hs, ok) => some (nV l 0, nV l (nT l 0 + 1), hs, ok)
def goodB (l : List UInt8) (x : Int × Int × List (Int × Int) × Bool) : Bool := x.2.2.2 && Idn.mayB x.1 x.2.1 x.2.2.1 && decide (Idn.showT x.1 x.2.1 x.2.2.1 = l)

theorem hop_sep (t : List (Int × Int)) : ∀ h : 0 < (t.flatMap Idn.hopT).length, isD (t.flatMap Idn.hopT)[0] = false := by
  intro h
  cases t with
  | nil => simp at h
  | cons x t => simp [Idn.hopT, List.flatMap_cons, isD]
theorem loop_show (l : List UInt8) : ∀ (Ls : List (Int × Int)) (A : List UInt8) (hs : List (Int × Int)) (f : Nat), l = A ++ Ls.flatMap Idn.hopT → (∀ x ∈ Ls, 0 ≤ x.1 ∧ x.1 < 8 ∧ 0 ≤ x.2 ∧ x.2 < 16) → Ls.length < f →
    loopR l f A.length true hs = some (hs ++ Ls, true) := by
  intro Ls
  induction Ls with
  | nil =>
    intro A hs f hl _ hf
    cases f with
    | zero => omega
    | succ f =>
      rw [loopR, if_neg (by rw [hl]; simp)]; simp
  | cons x t ih =>
    intro A hs f hl hx hf
    cases f with
    | zero => simp at hf
    | succ f =>
      obtain ⟨h1, h2, h3, h4⟩ := hx x List.mem_cons_self
      have e1 : l = (A ++ [47]) ++ (Lib.decDigits x.1.toNat ++ ([64] ++ Lib.decDigits x.2.toNat ++ t.flatMap Idn.hopT)) := by
        rw [hl, List.flatMap_cons]; simp [Idn.hopT]
      have e2 : l = (A ++ [47] ++ Lib.decDigits x.1.toNat ++ [64]) ++ (Lib.decDigits x.2.toNat ++ t.flatMap Idn.hopT) := by
        rw [hl, List.flatMap_cons]; simp [Idn.hopT]
      obtain ⟨v1, t1, b1⟩ := num_at (A ++ [47]) x.1.toNat _ l e1 (by omega) (by intro _; simp [isD]) (A.length + 1) (by simp)
      obtain ⟨v2, t2, b2⟩ := num_at (A ++ [47] ++ Lib.decDigits x.1.toNat ++ [64]) x.2.toNat _ l e2 (by omega) (hop_sep t) (nT l (A.length + 1) + 1) (by rw [t1]; simp; omega)
      have hlen : A.length < l.length := by rw [e1]; simp
      have hne : nT l (A.length + 1) ≠ l.length := by rw [t1]; intro e; rw [e1] at e; simp at e
      rw [loopR, if_pos ⟨rfl, hlen⟩, if_neg (by rw [b1]; simp [hne]), b2, v1, v2, t2]
      rw [ih (A ++ [47] ++ Lib.decDigits x.1.toNat ++ [64] ++ Lib.decDigits x.2.toNat) (hs ++ [(((x.1.toNat : Nat) : Int), ((x.2.toNat : Nat) : Int))]) f (by rw [e2]; simp) (fun y hy => hx y (List.mem_cons_of_mem _ hy)) (by simpa using hf)]
      rw [show ((x.1.toNat : Nat) : Int) = x.1 by omega, show ((x.2.toNat : Nat) : Int) = x.2 by omega]
      simp
theorem refI_show (r n : Int) (L : List (Int × Int)) (h : Idn.mayB r n L = true) : refI (Idn.showT r n L) = some (r, n, L, true) := by
  obtain ⟨h1, h2, h3, h4, h5, h6⟩ := may_root h
  have e1 : Idn.showT r n L = [] ++ (Lib.decDigits r.toNat ++ ([46] ++ Lib.decDigits n.toNat ++ L.flatMap Idn.hopT)) := by simp [Idn.showT]
  have e2 : Idn.showT r n L = (Lib.decDigits r.toNat ++ [46]) ++ (Lib.decDigits n.toNat ++ L.flatMap Idn.hopT) := by simp [Idn.showT]
  generalize Idn.showT r n L = l at *
  obtain ⟨v1, t1, b1⟩ := num_at [] r.toNat _ l e1 (by omega) (by intro _; simp [isD]) 0 (by simp)
  obtain ⟨v2, t2, b2⟩ := num_at (Lib.decDigits r.toNat ++ [46]) n.toNat _ l e2 (by omega) (hop_sep L) (nT l 0 + 1) (by rw [t1]; simp)
  have hne : nT l 0 ≠ l.length := by rw [t1]; intro e; rw [e1] at e; simp at e
  unfold refI
  rw [if_neg (by rw [b1]; simp [hne]), b2, v1, v2, t2, loop_show l L _ [] 5 (by rw [e2]; simp) h6 (by omega)]
  simp only [List.nil_append]
  rw [show ((r.toNat : Nat) : Int) = r by omega, show ((n.toNat : Nat) : Int) = n by omega]
def refP (l : List UInt8) : Option (Int × Int × List (Int × Int)) := match refI l with
  | none => none
  | some x => if goodB l x = true then some (x.1, x.2.1, x.2.2.1) else none
theorem ref_par (l : List UInt8) : refP l = if parB l = true then some ((readR l).1, (readR l).2, readL l) else none := by
  by_cases hp : parB l = true
  · rw [if_pos hp]
    have h := hp
    unfold parB at h
    simp only [Bool.and_eq_true, decide_eq_true_eq] at h
    have hi := refI_show _ _ _ h.1
    rw [h.2] at hi
    unfold refP
    rw [hi]
    have hg : goodB l ((readR l).1, (readR l).2, readL l, true) = true := by
      unfold goodB
      simp only [Bool.true_and, Bool.and_eq_true, decide_eq_true_eq]
      exact h
    simp only [hg, if_true]
  · rw [if_neg hp]
    unfold refP
    cases hi : refI l with
    | none => rfl
    | some x =>
      have hg : goodB l x = false := by
        cases hg : goodB l x with
        | false => rfl
        | true =>
          unfold goodB at hg
          simp only [Bool.and_eq_true, decide_eq_true_eq] at hg
          have := par_show _ _ _ hg.1.2
          rw [hg.2] at this
          exact absurd this hp
      simp [hg]
end Go.Proofs.YtmidlcipbpchgaaDoor
