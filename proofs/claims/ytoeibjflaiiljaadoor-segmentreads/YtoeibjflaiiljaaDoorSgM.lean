
/- Plain mathematics of segments: which files are a log, and what it has; what Next makes. -/
import Derived.Test.YtoeibjflaiiljaaDoorFormM
import Derived.Test.YtoeibjflaiiljaaDoorDkM
namespace Go.Proofs.YtoeibjflaiiljaaDoor.Sg
open Dk (Fl zf)

/- the numbers rise -/
def rise : List Fl → Bool
  | [] => true
  | [_] => true
  | a :: b :: r => decide (a.n < b.n) && rise (b :: r)
theorem rise_iff : ∀ (L : List Fl), rise L = true ↔ ∀ i (h : i + 1 < L.length), (L[i]'(by omega)).n < L[i + 1].n
  | [] => by simp [rise]
  | [_] => by simp [rise]
  | a :: b :: r => by
    rw [rise, Bool.and_eq_true, decide_eq_true_eq, rise_iff (b :: r)]
    constructor
    · rintro ⟨h0, h1⟩ i h
      match i, h with
      | 0, _ => exact h0
      | i + 1, h => exact h1 i (by simpa using h)
    · intro h
      refine ⟨h 0 (by simp), fun i hi => ?_⟩
      exact h (i + 1) (by simpa using hi)
theorem rise_not (L : List Fl) (i : Nat) (h : i + 1 < L.length) (hn : L[i + 1].n ≤ (L[i]'(by omega)).n) : rise L = false := by
  rcases hr : rise L with _ | _
  · rfl
  · have := (rise_iff L).1 hr i h
    omega

/- how a file's head stands: 0 whole, 10 not whole, else wrong -/
def hd (f : Fl) : Nat := (Sl.openE f.d.data.toList 0 3).2.2
def at' (L : List Fl) (k : Nat) : Fl := (L[k]?).getD (zf 0)
theorem at_eq (L : List Fl) (k : Nat) (h : k < L.length) : at' L k = L[k] := by
  unfold at'; rw [List.getElem?_eq_getElem h]; rfl
/- the last file below k whose head is whole: its place, or -1; the error -/
def lw (L : List Fl) : Nat → Int × Int
  | 0 => (-1, 0)
  | k + 1 => if hd (at' L k) = 0 then ((k : Int), 0) else if hd (at' L k) = 10 then lw L k else (-1, 170)
theorem lw_range (L : List Fl) : ∀ k, (lw L k = (-1, 0) ∨ lw L k = (-1, 170)) ∨ ∃ p, p < k ∧ lw L k = ((p : Int), 0) ∧ hd (at' L p) = 0
  | 0 => Or.inl (Or.inl rfl)
  | k + 1 => by
    rw [lw]
    split
    · exact Or.inr ⟨k, by omega, rfl, by assumption⟩
    · split
      · rcases lw_range L k with h | ⟨p, h1, h2⟩
        · exact Or.inl h
        · exact Or.inr ⟨p, by omega, h2⟩
      · exact Or.inl (Or.inr rfl)
def nums (L : List Fl) : List Int := L.map (fun f => f.n)
def drops (L : List Fl) (p : Nat) : List Int := nums (L.take p) ++ nums (L.drop (p + 1))

/- what Look answers -/
structure An where
  num : Int
  good : Nat
  bodies : List (List UInt8)
  drop : List Int
  err : Int
def bad (e : Int) : An := ⟨0, 0, [], [], e⟩
def cut (f : Fl) : List (List UInt8) × Nat × Nat := Sl.cutE f.d.data.toList 3
def found (L : List Fl) (p : Nat) : An :=
  if (cut (at' L p)).2.2 = 0 ∨ (cut (at' L p)).2.2 = 10 then ⟨(at' L p).n, (cut (at' L p)).2.1, (cut (at' L p)).1, drops L p, 0⟩ else bad 170
def look (L : List Fl) : An :=
  if rise L = true then
    (if (lw L L.length).2 = 0 then (if (lw L L.length).1 = -1 then ⟨-1, 0, [], nums L, 0⟩ else found L (lw L L.length).1.toNat) else bad 170)
  else bad 2

/- what Next makes -/
def frs (L : List ByteArray) : List UInt8 := L.flatMap fun s => (Sl.sealE 3 s.data.toList).1
def fit (L : List ByteArray) : Bool := L.all fun s => decide (s.size ≤ 30000)
def next (L : List ByteArray) : List UInt8 × Nat := if fit L = true then (frs L, 0) else ([], 3)
theorem seal3 (s : ByteArray) : Sl.sealE 3 s.data.toList = if s.size ≤ 30000 then (Sl.frame 3 s.data.toList, 0) else ([], 3) := by
  unfold Sl.sealE
  rw [if_pos (by decide)]
  have : s.data.toList.length = s.size := by simp
  rw [this]
  rfl
theorem frs_cat (L : List ByteArray) (h : fit L = true) : frs L = Sl.cat 3 (L.map (fun s => s.data.toList)) := by
  unfold frs Sl.cat
  rw [List.flatMap_map]
  have h' := List.all_eq_true.1 h
  induction L with
  | nil => rfl
  | cons s l ih =>
    rw [List.flatMap_cons, List.flatMap_cons, ih (List.all_eq_true.2 fun x hx => h' x (by simp [hx])) (fun x hx => h' x (by simp [hx])), seal3, if_pos (by simpa using h' s (by simp))]
theorem frs_more (L : List ByteArray) (k : Nat) (h : k < L.length) : frs (L.take (k + 1)) = frs (L.take k) ++ (Sl.sealE 3 L[k].data.toList).1 := by
  unfold frs; rw [List.take_succ_eq_append_getElem h, List.flatMap_append]; simp
theorem frs_take_le (L : List ByteArray) (k : Nat) : (frs (L.take k)).length ≤ (frs L).length := by
  have e : frs L = frs (L.take k) ++ frs (L.drop k) := by
    have := congrArg frs (List.take_append_drop k L)
    exact this.symm.trans (by unfold frs; rw [List.flatMap_append])
  rw [e, List.length_append]; omega
theorem fit_take (L : List ByteArray) (k : Nat) (h : k < L.length) (hf : fit (L.take k) = true) : fit (L.take (k + 1)) = decide (L[k].size ≤ 30000) := by
  unfold fit at hf ⊢
  rw [List.take_succ_eq_append_getElem h, List.all_append, hf]
  simp
theorem fit_not (L : List ByteArray) (k : Nat) (h : k < L.length) (hb : ¬ L[k].size ≤ 30000) : fit L = false := by
  rcases hf : fit L with _ | _
  · rfl
  · have := List.all_eq_true.1 hf L[k] (List.getElem_mem h)
    simp at this
    omega
theorem seal_len (s : ByteArray) : (Sl.sealE 3 s.data.toList).1.length ≤ s.size + 20 := by
  rw [seal3]
  have h1 := Sl.frame_len 3 s.data.toList
  have h2 := Pk.num_len s.data.toList.length
  have h3 : s.data.toList.length = s.size := by simp
  split
  · simp only; omega
  · simp
theorem frs_len (L : List ByteArray) : (frs L).length ≤ (L.map (fun s => s.size)).sum + 20 * L.length := by
  induction L with
  | nil => simp [frs]
  | cons s l ih =>
    have e1 : frs (s :: l) = (Sl.sealE 3 s.data.toList).1 ++ frs l := by simp [frs]
    have := seal_len s
    rw [e1, List.length_append, List.length_cons, List.map_cons, List.sum_cons]
    omega
end Go.Proofs.YtoeibjflaiiljaaDoor.Sg
