/- Rows of ledgers that lie not in a block; what the laws' does answers. -/
import Derived.Test.YtiakajheoajepaaLedZ
import Derived.Test.YtiakajheoajepaaOpenL
import Derived.Test.YtiakajheoajepaaRegH
import Derived.Deep.DeepCutAuto
namespace Go.Proofs.Ytiakajheoajepaa
open Go.ChangeShapes Go.WideShapes Go.ChangeAt Go.RowKit
open Led (Acc Mk)

/- a row that is empty, or lies not in this block -/
def Off {α : Type} (g : Nat) (a : Option Addr) (L : List α) : Prop := L = [] ∨ ∀ p, a = some p → p.block ≠ g
theorem off_new {α : Type} {f : α → List Value} {c : Nat} (hc : ∀ x, (f x).length = c) (h0 : 0 < c) {w : World} {a : Option Addr} {L : List α} (h : RowAt f w a L) {g : Nat} (hg : w.heap.size ≤ g) : Off g a L := by
  cases L with
  | nil => exact Or.inl rfl
  | cons x t =>
    right
    intro p hp
    have hl : 0 < ((x :: t).flatMap f).length := by rw [flat_len hc]; simp; omega
    obtain ⟨b, off, e, hb, _⟩ := h 0 _ (List.getElem?_eq_getElem hl)
    rw [hp] at e
    cases e
    show b ≠ g
    omega
theorem off_fr {α : Type} {g : Nat} {w : World} {o a : Option Addr} {L L' : List α} (h : Off g o L) (hf : Fr w o a L L') (hg : g < w.heap.size) : Off g a L' := by
  rcases hf with ⟨rfl, rfl⟩ | hf
  · exact h
  · exact Or.inr fun p hp => by have := hf p hp; omega
theorem RowAt.setOff {α : Type} {f : α → List Value} {w : World} {a : Option Addr} {L : List α} (h : RowAt f w a L) (p : Addr) (v : Value) (ho : Off p.block a L) : RowAt f (w.setCell p v) a L := by
  rcases ho with rfl | ho
  · exact RowAt.nil
  · exact h.setFar p v fun q hq => fun e => ho q hq e.symm
theorem hold7o {a b : World} (g : Gr a b) {q0 q1 q2 q3 q4 q5 q6 : Addr} {v0 v1 v2 v3 v4 v5 v6 : Value} (h0 : a.cell? q0 = some v0) (h1 : a.cell? q1 = some v1) (h2 : a.cell? q2 = some v2) (h3 : a.cell? q3 = some v3) (h4 : a.cell? q4 = some v4) (h5 : a.cell? q5 = some v5) (h6 : a.cell? q6 = some v6) :
    Gr a b ∧ b.cell? q0 = some v0 ∧ b.cell? q1 = some v1 ∧ b.cell? q2 = some v2 ∧ b.cell? q3 = some v3 ∧ b.cell? q4 = some v4 ∧ b.cell? q5 = some v5 ∧ b.cell? q6 = some v6 :=
  ⟨g, g.keep h0, g.keep h1, g.keep h2, g.keep h3, g.keep h4, g.keep h5, g.keep h6⟩
def clC (q : Cal) : Value := .agg #[.int .i64 q.kd, .string q.key, .int .i64 q.k, .string q.t, .int .i64 q.n]
/- what does answers, in a world behind W: a ledger A', M' -/
abbrev DoesAt (W : World) (a1 : Option Addr) (c1 : Nat) (a2 : Option Addr) (c2 : Nat) (A : List Acc) (M : List Mk) (q : Cal) (A' : List Acc) (M' : List Mk) (ok : Bool) : Prop :=
  ∀ w', Gr W w' → Calls Try.prog 27 #[.agg #[.slice a1 A.length c1, .slice a2 M.length c2], .agg #[.int .i64 q.kd, .string q.key, .int .i64 q.k, .string q.t, .int .i64 q.n]] w' fun e w2 => ∃ b1 d1 b2 d2, e = .returned (.tuple #[.agg #[.slice b1 A'.length d1, .slice b2 M'.length d2], .bool ok]) ∧ AccsAt w2 b1 A' ∧ MksAt w2 b2 M' ∧ Fr w' a1 b1 A A' ∧ Fr w' a2 b2 M M' ∧ Gr w' w2
theorem does_at {W : World} {a1 : Option Addr} {c1 : Nat} {a2 : Option Addr} {c2 : Nat} {A : List Acc} {M : List Mk} {q : Cal} (h : LedAt W a1 a2 A M) (hq : inC q) : DoesAt W a1 c1 a2 c2 A M q (stA A M q) (stM A M q) (decide (stE A M q = 0)) := fun w' g =>
  does_any A M q a1 c1 a2 c2 w' (h.gr g) hq.2.1 hq.2.2.2.1
end Go.Proofs.Ytiakajheoajepaa
