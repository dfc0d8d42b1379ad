
/- Plain mathematics of notes and frames: which may be, their ends, their bytes, what is read of bytes. -/
import Derived.Test.YtilkfgpcibdikaaActM
import Derived.Test.YtilkfgpcibdikaaPathM
namespace Go.Proofs.Ytilkfgpcibdikaa

/- a note: kind, the id's root, number and hops, definition, reason -/
structure Nt where
  k : Int
  r : Int
  n : Int
  L : List (Int × Int)
  d : ByteArray
  y : Int
/- a frame: from, to, epoch, number, epoch and number of the answer, note -/
structure Fm where
  f : Int
  t : Int
  e : Int
  s : Int
  a : Int
  c : Int
  n : Nt
namespace Nt
def zeroN : Nt := ⟨0, 0, 0, [], ⟨#[]⟩, 0⟩
def zeroF : Fm := ⟨0, 0, 0, 0, 0, 0, zeroN⟩
def inB (n l h : Int) : Bool := decide (l ≤ n) && decide (n ≤ h)
def chB (x : Nt) : Bool := Idn.mayB x.r x.n x.L && decide (0 < x.L.length)
def dfB (x : Nt) : Bool := if x.k = 1 then Act.nameB x.d else decide (x.d = ⟨#[]⟩)
def wyB (x : Nt) : Bool := if x.k = 6 then inB x.y 1 9 else decide (x.y = 0)
def ntB (x : Nt) : Bool := inB x.k 1 7 && chB x && dfB x && wyB x
def ckE (x : Nt) : Int := if ntB x = true then 0 else 130
def upO (x : Nt) : Int := (Idn.path x.r x.L.dropLast).getLastD (-1)
def dnO (x : Nt) : Int := (Idn.path x.r x.L).getLastD (-1)
def ends1 (x : Nt) : Int := if ntB x = true then (if x.k ≤ 4 then upO x else dnO x) else -1
def ends2 (x : Nt) : Int := if ntB x = true then (if x.k ≤ 4 then dnO x else upO x) else -1
def emB (x : Nt) : Bool := decide (x.k = 0) && decide (x.r = 0) && decide (x.n = 0) && decide (x.L.length = 0) && decide (x.d = ⟨#[]⟩) && decide (x.y = 0)
def cnB (f : Fm) : Bool := inB f.e 1 1000000000 && inB f.s 0 1000000000 && inB f.a 0 1000000000 && inB f.c 0 1000000000
def fnB (f : Fm) : Bool := if f.s = 0 then emB f.n else ntB f.n && decide (ends1 f.n = f.f) && decide (ends2 f.n = f.t)
def frB (f : Fm) : Bool := inB f.f 0 15 && inB f.t 0 15 && decide (f.f ≠ f.t) && cnB f && fnB f
def frE (f : Fm) : Int := if frB f = true then 0 else 130

theorem inB_iff {n l h : Int} : inB n l h = true ↔ l ≤ n ∧ n ≤ h := by unfold inB; simp

theorem may_note {x : Nt} (h : ntB x = true) : (1 ≤ x.k ∧ x.k ≤ 7) ∧ Idn.mayB x.r x.n x.L = true ∧ 0 < x.L.length ∧ dfB x = true ∧ wyB x = true := by
  unfold ntB chB at h
  simp only [Bool.and_eq_true, decide_eq_true_eq, inB_iff] at h
  exact ⟨h.1.1.1, h.1.1.2.1, h.1.1.2.2, h.1.2, h.2⟩
theorem may_def {x : Nt} (h : dfB x = true) : x.d.size ≤ 16 := by
  unfold dfB at h
  split at h
  · exact (Act.name_pos h).2
  · have := of_decide_eq_true h
    rw [this]; decide
theorem may_why {x : Nt} (h : wyB x = true) : 0 ≤ x.y ∧ x.y ≤ 9 := by
  unfold wyB at h
  split at h
  · have := inB_iff.1 h; omega
  · have := of_decide_eq_true h; omega
theorem may_frame {f : Fm} (h : frB f = true) : (0 ≤ f.f ∧ f.f ≤ 15) ∧ (0 ≤ f.t ∧ f.t ≤ 15) ∧ f.f ≠ f.t ∧ (1 ≤ f.e ∧ f.e ≤ 1000000000) ∧ (0 ≤ f.s ∧ f.s ≤ 1000000000) ∧ (0 ≤ f.a ∧ f.a ≤ 1000000000) ∧ (0 ≤ f.c ∧ f.c ≤ 1000000000) ∧ fnB f = true := by
  unfold frB cnB at h
  simp only [Bool.and_eq_true, decide_eq_true_eq, inB_iff] at h
  exact ⟨h.1.1.1.1, h.1.1.1.2, h.1.1.2, h.1.2.1.1.1, h.1.2.1.1.2, h.1.2.1.2, h.1.2.2, h.2⟩
theorem em_zero {x : Nt} (h : emB x = true) : x = zeroN := by
  unfold emB at h
  simp only [Bool.and_eq_true, decide_eq_true_eq] at h
  obtain ⟨k, r, n, L, d, y⟩ := x
  simp only at h
  obtain ⟨⟨⟨⟨⟨rfl, rfl⟩, rfl⟩, hl⟩, rfl⟩, rfl⟩ := h
  rw [List.length_eq_zero_iff.1 hl]; rfl
theorem fn_note {f : Fm} (h : fnB f = true) (hs : ¬ f.s = 0) : ntB f.n = true ∧ ends1 f.n = f.f ∧ ends2 f.n = f.t := by
  unfold fnB at h
  rw [if_neg hs] at h
  simp only [Bool.and_eq_true, decide_eq_true_eq] at h
  exact ⟨h.1.1, h.1.2, h.2⟩
end Nt
end Go.Proofs.Ytilkfgpcibdikaa
