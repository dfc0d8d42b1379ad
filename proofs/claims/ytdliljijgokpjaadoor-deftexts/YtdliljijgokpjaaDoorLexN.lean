/- Plain mathematics of rows of tokens: what may be, their text, values. -/
import Derived.Test.YtdliljijgokpjaaDoorLexM
namespace Go.Proofs.YtdliljijgokpjaaDoor.Lex
open _root_.Go.Proofs.YtdliljijgokpjaaDoor.Act (letB digB sgnB nameB headB)

def endT (x : Tok) : Bool := decide (x.k = 0) && decide (x.t = ⟨#[]⟩)
def okT (x : Tok) : Bool := mayB x.k x.t
def szs (I : List Tok) : Nat := (I.map (fun x => x.t.size)).sum
def jz (I : List Tok) : Nat := szs I + (I.length - 1)
def ckE (T : List Tok) : Int := match T.getLast? with
  | none => 80
  | some x => if endT x = true then (if T.dropLast.all okT = true then (if 2000 < jz T.dropLast then 3 else 0) else 80) else 80
theorem szs_snoc (I : List Tok) (x : Tok) : szs (I ++ [x]) = szs I + x.t.size := by simp [szs]
theorem szs_take (I : List Tok) (i : Nat) (h : i < I.length) : szs (I.take (i + 1)) = szs (I.take i) + I[i].t.size := by
  rw [List.take_succ_eq_append_getElem h, szs_snoc]
theorem szs_le (I : List Tok) : ∀ i, szs (I.take i) ≤ szs I := by
  induction I with
  | nil => intro i; simp [szs]
  | cons x t ih =>
    intro i
    cases i with
    | zero => simp [szs]
    | succ i => have := ih i; simp [szs] at this ⊢; omega
theorem may_size {k : Int} {s : ByteArray} (h : mayB k s = true) : 1 ≤ s.size ∧ s.size ≤ 16 := by
  unfold mayB at h
  split at h
  · have := Act.name_pos h; omega
  · split at h
    · have := num_parts h; exact ⟨this.1, this.2.1⟩
    · split at h
      · rcases sig_parts h with rfl | rfl | rfl <;> decide
      · cases h
theorem szs_bound (I : List Tok) (h : ∀ x ∈ I, okT x = true) : szs I ≤ 16 * I.length := by
  induction I with
  | nil => simp [szs]
  | cons x t ih =>
    have h1 := ih (fun y hy => h y (by simp [hy]))
    have h2 := (may_size (h x (by simp))).2
    simp [szs] at h1 ⊢; omega
theorem ck_none : ckE [] = 80 := rfl
theorem ck_snoc (I : List Tok) (x : Tok) : ckE (I ++ [x]) = if endT x = true then (if I.all okT = true then (if 2000 < jz I then 3 else 0) else 80) else 80 := by
  unfold ckE; simp
theorem all_idx (I : List Tok) (p : Tok → Bool) (h : ∀ j (hj : j < I.length), p I[j] = true) : I.all p = true := by
  rw [List.all_eq_true]
  intro x hx
  obtain ⟨j, hj, rfl⟩ := List.getElem_of_mem hx
  exact h j hj
theorem all_nidx (I : List Tok) (p : Tok → Bool) (j : Nat) (hj : j < I.length) (h : p I[j] = false) : I.all p = false := by
  rw [List.all_eq_false]
  exact ⟨I[j], List.getElem_mem hj, by rw [h]; simp⟩

/- the text of tokens -/
def jr : List Tok → List UInt8
  | [] => []
  | x :: t => 32 :: (x.t.data.toList ++ jr t)
def jf : List Tok → List UInt8
  | [] => []
  | x :: t => x.t.data.toList ++ jr t
theorem jr_snoc (I : List Tok) (x : Tok) : jr (I ++ [x]) = jr I ++ 32 :: x.t.data.toList := by
  induction I with
  | nil => simp [jr]
  | cons y t ih => simp [jr, ih]
theorem jf_snoc (I : List Tok) (x : Tok) : jf (I ++ [x]) = jf I ++ (if I.length = 0 then [] else [32]) ++ x.t.data.toList := by
  cases I with
  | nil => simp [jf, jr]
  | cons y t => simp [jf, jr_snoc]
theorem jf_take (I : List Tok) (i : Nat) (h : i < I.length) : jf (I.take (i + 1)) = jf (I.take i) ++ (if i = 0 then [] else [32]) ++ I[i].t.data.toList := by
  rw [List.take_succ_eq_append_getElem h, jf_snoc]
  have : (I.take i).length = i := by rw [List.length_take]; omega
  rw [this]
theorem jr_len (I : List Tok) : (jr I).length = szs I + I.length := by
  induction I with
  | nil => rfl
  | cons x t ih => simp [jr, szs] at ih ⊢; omega
theorem jf_len (I : List Tok) : (jf I).length = jz I := by
  cases I with
  | nil => rfl
  | cons x t => have := jr_len t; simp [jf, jz, szs] at this ⊢; omega
theorem jz_take (I : List Tok) (i : Nat) (h : i < I.length) : jz (I.take (i + 1)) = jz (I.take i) + (if i = 0 then 0 else 1) + I[i].t.size := by
  unfold jz
  rw [szs_take I i h]
  have h1 : (I.take i).length = i := by rw [List.length_take]; omega
  have h2 : (I.take (i + 1)).length = i + 1 := by rw [List.length_take]; omega
  rw [h1, h2]
  split <;> omega
theorem jz_le (I : List Tok) (i : Nat) : jz (I.take i) ≤ jz I := by
  unfold jz
  have := szs_le I i
  rw [List.length_take]; omega
def jx (I : List Tok) : ByteArray := ⟨(jf I).toArray⟩

/- the value of a number -/
def vl : List UInt8 → Int → Int
  | [], n => n
  | b :: t, n => vl t (n * 10 + ((b.toNat : Int) - 48))
def valE (k : Int) (s : ByteArray) : Int := if k = 2 ∧ numB s = true then vl s.data.toList 0 else 0
def valB (k : Int) (s : ByteArray) : Bool := decide (k = 2) && numB s
theorem vl_snoc (l : List UInt8) (b : UInt8) : ∀ n, vl (l ++ [b]) n = vl l n * 10 + ((b.toNat : Int) - 48) := by
  induction l with
  | nil => intro n; rfl
  | cons c t ih => intro n; exact ih _
theorem vl_take (l : List UInt8) (k : Nat) (h : k < l.length) : vl (l.take (k + 1)) 0 = vl (l.take k) 0 * 10 + ((l[k].toNat : Int) - 48) := by
  rw [List.take_succ_eq_append_getElem h, vl_snoc]
theorem vl_bound : ∀ (l : List UInt8) (n : Int), 0 ≤ n → (∀ b ∈ l, digB b = true) → 0 ≤ vl l n ∧ vl l n < (n + 1) * 10 ^ l.length := by
  intro l
  induction l with
  | nil => intro n hn _; simp [vl]; omega
  | cons b t ih =>
    intro n hn hd
    have hb : digB b = true := hd b (by simp)
    have hk : (48 : Int) ≤ (b.toNat : Int) ∧ (b.toNat : Int) ≤ 57 := by unfold Act.digB at hb; simpa only [Bool.and_eq_true, decide_eq_true_eq] using hb
    obtain ⟨h1, h2⟩ := ih (n * 10 + ((b.toNat : Int) - 48)) (by omega) (fun c hc => hd c (by simp [hc]))
    refine ⟨h1, Int.lt_of_lt_of_le h2 ?_⟩
    rw [List.length_cons, Int.pow_succ]
    have : (n * 10 + ((b.toNat : Int) - 48) + 1) ≤ (n + 1) * 10 := by omega
    have h3 : (0 : Int) ≤ 10 ^ t.length := Int.pow_nonneg (by omega)
    calc (n * 10 + ((b.toNat : Int) - 48) + 1) * 10 ^ t.length ≤ ((n + 1) * 10) * 10 ^ t.length := Int.mul_le_mul_of_nonneg_right this h3
      _ = (n + 1) * (10 ^ t.length * 10) := by rw [Int.mul_assoc, Int.mul_comm 10]
theorem vl_rng (l : List UInt8) (hl : l.length ≤ 16) (hd : ∀ b ∈ l, digB b = true) : 0 ≤ vl l 0 ∧ vl l 0 < 10000000000000000 := by
  obtain ⟨h1, h2⟩ := vl_bound l 0 (by omega) hd
  refine ⟨h1, Int.lt_of_lt_of_le h2 ?_⟩
  have h := Nat.pow_le_pow_right (show 0 < 10 by omega) hl
  have e : ((10 : Int) ^ l.length) = ((10 ^ l.length : Nat) : Int) := by simp
  rw [e]
  omega
end Go.Proofs.YtdliljijgokpjaaDoor.Lex
