/- What is read of the text of an id is the id. -/
import Derived.Test.YtmidlcipbpchgaaDoorParseP
namespace Go.Proofs.YtmidlcipbpchgaaDoor

theorem dig_mem (n : Nat) : ∀ b ∈ Lib.decDigits n, 48 ≤ b.toNat ∧ b.toNat ≤ 57 := by
  induction n using Nat.strongRecOn with
  | _ n ih =>
    intro b hb
    rw [Lib.decDigits] at hb
    split at hb
    · next h =>
      rw [List.mem_singleton] at hb
      subst hb
      rw [UInt8.toNat_ofNat']; omega
    · next h =>
      rcases List.mem_append.1 hb with hb | hb
      · exact ih (n / 10) (by omega) b hb
      · rw [List.mem_singleton] at hb
        subst hb
        rw [UInt8.toNat_ofNat']; omega
theorem dig_ne (n : Nat) : Lib.decDigits n ≠ [] := by
  rw [Lib.decDigits]
  split <;> simp
theorem dig_not (n : Nat) (c : UInt8) (h : c.toNat < 48 ∨ 57 < c.toNat) : c ∉ Lib.decDigits n := fun hm => by
  have := dig_mem n c hm
  omega
theorem parse_snoc (l : List UInt8) (k : Nat) (hk : k < 10) : ∀ acc u, Lib.parseUint10 acc l = .ok u → u * 10 + k < 1000000000000000000 → Lib.parseUint10 acc (l ++ [UInt8.ofNat (48 + k)]) = .ok (u * 10 + k) := by
  have ht : (UInt8.ofNat (48 + k)).toNat = 48 + k := by rw [UInt8.toNat_ofNat']; omega
  induction l with
  | nil =>
    intro acc u h hu
    simp only [Lib.parseUint10] at h
    injection h with h
    subst h
    rw [List.nil_append, Lib.parseUint10, ht, if_pos (by omega), if_neg (by omega), if_neg (by omega), show 48 + k - 48 = k by omega]
    rfl
  | cons c t ih =>
    intro acc u h hu
    rw [List.cons_append, Lib.parseUint10]
    rw [Lib.parseUint10] at h
    split at h
    · next h1 =>
      rw [if_pos h1]
      split at h
      · cases h
      · next h2 =>
        rw [if_neg h2]
        split at h
        · cases h
        · next h3 =>
          rw [if_neg h3]
          exact ih _ _ h hu
    · cases h
theorem parse_digs (n : Nat) : n < 1000000000000000000 → Lib.parseUint10 0 (Lib.decDigits n) = .ok n := by
  induction n using Nat.strongRecOn with
  | _ n ih =>
    intro hn
    rw [Lib.decDigits]
    split
    · next h =>
      have := parse_snoc [] n h 0 0 rfl (by omega)
      simpa using this
    · next h =>
      have := parse_snoc (Lib.decDigits (n / 10)) (n % 10) (by omega) 0 (n / 10) (ih (n / 10) (by omega) (by omega)) (by omega)
      rw [this]
      congr 1
      omega
theorem num_digs (n : Nat) (hn : n < 1000000000000000000) : numE (Lib.decDigits n) = n := by
  have h1 := parse_digs n hn
  have h2 := dig_mem n
  have h3 := dig_ne n
  cases hl : Lib.decDigits n with
  | nil => exact absurd hl h3
  | cons c r =>
    rw [hl] at h1 h2
    have hc := h2 c List.mem_cons_self
    have e1 : ¬ (c.toNat = 43 ∨ c.toNat = 45) := by omega
    have e2 : ¬ c.toNat = 45 := by omega
    have e3 : Lib.parseMag (c :: r) = .ok n := by unfold Lib.parseMag; rw [if_neg (by simp), h1]
    have key : Lib.atoiAll (c :: r) = .ok (n : Int) := by
      have e4 : (if c.toNat = 43 ∨ c.toNat = 45 then r else c :: r) = c :: r := if_neg e1
      simp only [Lib.atoiAll, e4, e3]
      rw [if_neg (by omega), if_neg (by omega), if_neg e2]
    unfold numE
    rw [key]

theorem cut_at (l m : List UInt8) (c : UInt8) (h : c ∉ l) : Idn.cut3 (l ++ c :: m) c = (l, m, true) := by
  induction l with
  | nil => simp [Idn.cut3]
  | cons b t ih =>
    rw [List.mem_cons, not_or] at h
    rw [List.cons_append, Idn.cut3, if_neg (fun e => h.1 e.symm), ih h.2]
theorem cut_none (l : List UInt8) (c : UInt8) (h : c ∉ l) : Idn.cut3 l c = (l, [], false) := by
  induction l with
  | nil => rfl
  | cons b t ih =>
    rw [List.mem_cons, not_or] at h
    rw [Idn.cut3, if_neg (fun e => h.1 e.symm), ih h.2]
theorem pair_digs (a b : Nat) (c : UInt8) (hc : c.toNat < 48 ∨ 57 < c.toNat) (ha : a < 1000000000000000000) (hb : b < 1000000000000000000) : pairE (Lib.decDigits a ++ c :: Lib.decDigits b) c = ((a : Int), (b : Int)) := by
  unfold pairE
  rw [cut_at _ _ _ (dig_not a c hc), num_digs a ha, num_digs b hb]

def bodyT (h : Int × Int) : List UInt8 := Lib.decDigits h.1.toNat ++ 64 :: Lib.decDigits h.2.toNat
def restT : List (Int × Int) → List UInt8
  | [] => []
  | h :: t => bodyT h ++ t.flatMap Idn.hopT
theorem cut_rest (p : List UInt8) (L : List (Int × Int)) (hp : 47 ∉ p) : Idn.cut3 (p ++ L.flatMap Idn.hopT) 47 = (p, restT L, !L.isEmpty) := by
  cases L with
  | nil => simpa [restT] using cut_none p 47 hp
  | cons h t =>
    have : (h :: t).flatMap Idn.hopT = 47 :: restT (h :: t) := by simp [Idn.hopT, restT, bodyT]
    rw [this, cut_at p _ 47 hp]; rfl
theorem body_not (h : Int × Int) : (47 : UInt8) ∉ bodyT h := by
  unfold bodyT
  rw [List.mem_append, List.mem_cons, not_or, not_or]
  exact ⟨dig_not _ _ (by decide), by decide, dig_not _ _ (by decide)⟩
theorem readH_rest (L : List (Int × Int)) (hL : ∀ x ∈ L, 0 ≤ x.1 ∧ x.1 < 8 ∧ 0 ≤ x.2 ∧ x.2 < 16) : ∀ k, L.length ≤ k → readH k (restT L) (!L.isEmpty) = L := by
  induction L with
  | nil => intro k _; cases k <;> rfl
  | cons h t ih =>
    intro k hk
    cases k with
    | zero => simp at hk
    | succ k =>
      have hh := hL h List.mem_cons_self
      have hp : pairE (bodyT h) 64 = h := by
        unfold bodyT
        rw [pair_digs _ _ _ (by decide) (by omega) (by omega)]
        exact Prod.ext (by simp; omega) (by simp; omega)
      show pairE (Idn.cut3 (bodyT h ++ t.flatMap Idn.hopT) 47).1 64 :: readH k (Idn.cut3 (bodyT h ++ t.flatMap Idn.hopT) 47).2.1 (Idn.cut3 (bodyT h ++ t.flatMap Idn.hopT) 47).2.2 = h :: t
      rw [cut_rest _ _ (body_not h), hp, ih (fun x hx => hL x (List.mem_cons_of_mem _ hx)) k (by simpa using hk)]
theorem read_show (r n : Int) (L : List (Int × Int)) (hm : Idn.mayB r n L = true) : readR (Idn.showT r n L) = (r, n) ∧ readL (Idn.showT r n L) = L := by
  obtain ⟨h1, h2, h3, h4, h5, h6⟩ := may_root hm
  have hp : (47 : UInt8) ∉ Lib.decDigits r.toNat ++ 46 :: Lib.decDigits n.toNat := by
    rw [List.mem_append, List.mem_cons, not_or, not_or]
    exact ⟨dig_not _ _ (by decide), by decide, dig_not _ _ (by decide)⟩
  unfold readR readL Idn.showT
  rw [cut_rest _ _ hp]
  refine ⟨?_, readH_rest L h6 4 h5⟩
  rw [pair_digs _ _ _ (by decide) (by omega) (by omega)]
  exact Prod.ext (by simp; omega) (by simp; omega)
theorem par_show (r n : Int) (L : List (Int × Int)) (hm : Idn.mayB r n L = true) : parB (Idn.showT r n L) = true := by
  obtain ⟨h1, h2⟩ := read_show r n L hm
  unfold parB
  rw [h1, h2]
  simp [hm]
end Go.Proofs.YtmidlcipbpchgaaDoor
