/- Parts of these proofs, laid together. -/
import Derived.Test.YthaadiclopoamaaGreatDoorGP
import Derived.Test.YthaadiclopoamaaGreatDoorGL
import Derived.Test.YthaadiclopoamaaGreatDoorGA
import Derived.Test.YthaadiclopoamaaGreatDoorRows
import Derived.ProofKit
import Derived.OpenShut
import Derived.Deep.SlicePairs
import Derived.Deep.Strs
/- Moves and records in memory. -/
set_option maxRecDepth 100000
set_option maxHeartbeats 8000000
namespace Go.Proofs.YthaadiclopoamaaGreatDoor
open Go.RowKit
open Df (Stp)

/- a move's cells, a record's cells; what is known of one in memory -/
def mvC (m : Mv) (a1 : Option Addr) (c1 : Nat) (a2 : Option Addr) (c2 : Nat) : List Value := [.int .i64 m.k, .int .i64 m.r, .int .i64 m.n, .slice a1 m.L.length c1, .int .i64 m.s, .int .i64 m.y, .string m.d, .slice a2 m.S.length c2]
structure MvIn (W : World) (m : Mv) (a1 : Option Addr) (c1 : Nat) (a2 : Option Addr) (c2 : Nat) : Prop where
 hops : HopsAt W a1 m.L
 stps : StpsAt W a2 m.S
 nL : m.L.length <= 9223372036854775807
 nS : m.S.length <= 9223372036854775807
 nd : m.d.size <= 9223372036854775807
 inS : ∀ s ∈ m.S, inS s
structure RcIn (W : World) (x : Rc) (a1 : Option Addr) (c1 : Nat) (a2 : Option Addr) (c2 : Nat) (a3 : Option Addr) (c3 : Nat) : Prop where
 mv : MvIn W x.m a1 c1 a2 c2
 stps : StpsAt W a3 x.S
 nS : x.S.length <= 9223372036854775807
 nd : x.d.size <= 9223372036854775807
 inS : ∀ s ∈ x.S, Go.Proofs.YthaadiclopoamaaGreatDoor.inS s
 na : x.a.size <= 9223372036854775807
 nt : x.t.size <= 9223372036854775807
def rcC (x : Rc) (a1 : Option Addr) (c1 : Nat) (a2 : Option Addr) (c2 : Nat) (a3 : Option Addr) (c3 : Nat) : List Value := .int .i64 x.k :: (mvC x.m a1 c1 a2 c2 ++ [.string x.a, .int .i64 x.v, .string x.d, .slice a3 x.S.length c3, .string x.t])
theorem MvIn.gr {w w' : World} {m : Mv} {a1 a2 : Option Addr} {c1 c2 : Nat} (h : MvIn w m a1 c1 a2 c2) (g : Gr w w') : MvIn w' m a1 c1 a2 c2 := ⟨h.hops.gr g, h.stps.gr g, h.nL, h.nS, h.nd, h.inS⟩
theorem RcIn.gr {w w' : World} {x : Rc} {a1 a2 a3 : Option Addr} {c1 c2 c3 : Nat} (h : RcIn w x a1 c1 a2 c2 a3 c3) (g : Gr w w') : RcIn w' x a1 c1 a2 c2 a3 c3 := ⟨h.mv.gr g, h.stps.gr g, h.nS, h.nd, h.inS, h.na, h.nt⟩

theorem Cs.c2 {w : World} {g : Nat} {v0 v1 : Value} (h : Cs w g [v0, v1]) : w.cell? ⟨g, 0, none⟩ = some v0 /\ w.cell? ⟨g, 1, none⟩ = some v1 /\ g < w.heap.size := ⟨h.at_ 0 _ rfl, h.at_ 1 _ rfl, h.lt⟩
theorem Cs.d2 {w : World} {g : Nat} {v0 v1 : Value} (h : Cs w g [v0, v1]) : w.cell? ⟨g, 0, none⟩ = some v0 /\ w.cell? ⟨g, 1, none⟩ = some v1 /\ w.frozen? ⟨g, 0, none⟩ = false /\ w.frozen? ⟨g, 1, none⟩ = false /\ g < w.heap.size := ⟨h.at_ 0 _ rfl, h.at_ 1 _ rfl, h.fz 0 (by simp), h.fz 1 (by simp), h.lt⟩
theorem Cs.c3 {w : World} {g : Nat} {v0 v1 v2 : Value} (h : Cs w g [v0, v1, v2]) : w.cell? ⟨g, 0, none⟩ = some v0 /\ w.cell? ⟨g, 1, none⟩ = some v1 /\ w.cell? ⟨g, 2, none⟩ = some v2 /\ g < w.heap.size := ⟨h.at_ 0 _ rfl, h.at_ 1 _ rfl, h.at_ 2 _ rfl, h.lt⟩
theorem Cs.d3 {w : World} {g : Nat} {v0 v1 v2 : Value} (h : Cs w g [v0, v1, v2]) : w.cell? ⟨g, 0, none⟩ = some v0 /\ w.cell? ⟨g, 1, none⟩ = some v1 /\ w.cell? ⟨g, 2, none⟩ = some v2 /\ w.frozen? ⟨g, 0, none⟩ = false /\ w.frozen? ⟨g, 1, none⟩ = false /\ w.frozen? ⟨g, 2, none⟩ = false /\ g < w.heap.size := ⟨h.at_ 0 _ rfl, h.at_ 1 _ rfl, h.at_ 2 _ rfl, h.fz 0 (by simp), h.fz 1 (by simp), h.fz 2 (by simp), h.lt⟩
theorem Cs.c5 {w : World} {g : Nat} {v0 v1 v2 v3 v4 : Value} (h : Cs w g [v0, v1, v2, v3, v4]) : w.cell? ⟨g, 0, none⟩ = some v0 /\ w.cell? ⟨g, 1, none⟩ = some v1 /\ w.cell? ⟨g, 2, none⟩ = some v2 /\ w.cell? ⟨g, 3, none⟩ = some v3 /\ w.cell? ⟨g, 4, none⟩ = some v4 /\ g < w.heap.size := ⟨h.at_ 0 _ rfl, h.at_ 1 _ rfl, h.at_ 2 _ rfl, h.at_ 3 _ rfl, h.at_ 4 _ rfl, h.lt⟩
theorem Cs.d5 {w : World} {g : Nat} {v0 v1 v2 v3 v4 : Value} (h : Cs w g [v0, v1, v2, v3, v4]) : w.cell? ⟨g, 0, none⟩ = some v0 /\ w.cell? ⟨g, 1, none⟩ = some v1 /\ w.cell? ⟨g, 2, none⟩ = some v2 /\ w.cell? ⟨g, 3, none⟩ = some v3 /\ w.cell? ⟨g, 4, none⟩ = some v4 /\ w.frozen? ⟨g, 0, none⟩ = false /\ w.frozen? ⟨g, 1, none⟩ = false /\ w.frozen? ⟨g, 2, none⟩ = false /\ w.frozen? ⟨g, 3, none⟩ = false /\ w.frozen? ⟨g, 4, none⟩ = false /\ g < w.heap.size := ⟨h.at_ 0 _ rfl, h.at_ 1 _ rfl, h.at_ 2 _ rfl, h.at_ 3 _ rfl, h.at_ 4 _ rfl, h.fz 0 (by simp), h.fz 1 (by simp), h.fz 2 (by simp), h.fz 3 (by simp), h.fz 4 (by simp), h.lt⟩
theorem Cs.c8 {w : World} {g : Nat} {v0 v1 v2 v3 v4 v5 v6 v7 : Value} (h : Cs w g [v0, v1, v2, v3, v4, v5, v6, v7]) : w.cell? ⟨g, 0, none⟩ = some v0 /\ w.cell? ⟨g, 1, none⟩ = some v1 /\ w.cell? ⟨g, 2, none⟩ = some v2 /\ w.cell? ⟨g, 3, none⟩ = some v3 /\ w.cell? ⟨g, 4, none⟩ = some v4 /\ w.cell? ⟨g, 5, none⟩ = some v5 /\ w.cell? ⟨g, 6, none⟩ = some v6 /\ w.cell? ⟨g, 7, none⟩ = some v7 /\ g < w.heap.size := ⟨h.at_ 0 _ rfl, h.at_ 1 _ rfl, h.at_ 2 _ rfl, h.at_ 3 _ rfl, h.at_ 4 _ rfl, h.at_ 5 _ rfl, h.at_ 6 _ rfl, h.at_ 7 _ rfl, h.lt⟩
theorem Cs.d8 {w : World} {g : Nat} {v0 v1 v2 v3 v4 v5 v6 v7 : Value} (h : Cs w g [v0, v1, v2, v3, v4, v5, v6, v7]) : w.cell? ⟨g, 0, none⟩ = some v0 /\ w.cell? ⟨g, 1, none⟩ = some v1 /\ w.cell? ⟨g, 2, none⟩ = some v2 /\ w.cell? ⟨g, 3, none⟩ = some v3 /\ w.cell? ⟨g, 4, none⟩ = some v4 /\ w.cell? ⟨g, 5, none⟩ = some v5 /\ w.cell? ⟨g, 6, none⟩ = some v6 /\ w.cell? ⟨g, 7, none⟩ = some v7 /\ w.frozen? ⟨g, 0, none⟩ = false /\ w.frozen? ⟨g, 1, none⟩ = false /\ w.frozen? ⟨g, 2, none⟩ = false /\ w.frozen? ⟨g, 3, none⟩ = false /\ w.frozen? ⟨g, 4, none⟩ = false /\ w.frozen? ⟨g, 5, none⟩ = false /\ w.frozen? ⟨g, 6, none⟩ = false /\ w.frozen? ⟨g, 7, none⟩ = false /\ g < w.heap.size := ⟨h.at_ 0 _ rfl, h.at_ 1 _ rfl, h.at_ 2 _ rfl, h.at_ 3 _ rfl, h.at_ 4 _ rfl, h.at_ 5 _ rfl, h.at_ 6 _ rfl, h.at_ 7 _ rfl, h.fz 0 (by simp), h.fz 1 (by simp), h.fz 2 (by simp), h.fz 3 (by simp), h.fz 4 (by simp), h.fz 5 (by simp), h.fz 6 (by simp), h.fz 7 (by simp), h.lt⟩
theorem Cs.c14 {w : World} {g : Nat} {v0 v1 v2 v3 v4 v5 v6 v7 v8 v9 v10 v11 v12 v13 : Value} (h : Cs w g [v0, v1, v2, v3, v4, v5, v6, v7, v8, v9, v10, v11, v12, v13]) : w.cell? ⟨g, 0, none⟩ = some v0 /\ w.cell? ⟨g, 1, none⟩ = some v1 /\ w.cell? ⟨g, 2, none⟩ = some v2 /\ w.cell? ⟨g, 3, none⟩ = some v3 /\ w.cell? ⟨g, 4, none⟩ = some v4 /\ w.cell? ⟨g, 5, none⟩ = some v5 /\ w.cell? ⟨g, 6, none⟩ = some v6 /\ w.cell? ⟨g, 7, none⟩ = some v7 /\ w.cell? ⟨g, 8, none⟩ = some v8 /\ w.cell? ⟨g, 9, none⟩ = some v9 /\ w.cell? ⟨g, 10, none⟩ = some v10 /\ w.cell? ⟨g, 11, none⟩ = some v11 /\ w.cell? ⟨g, 12, none⟩ = some v12 /\ w.cell? ⟨g, 13, none⟩ = some v13 /\ g < w.heap.size := ⟨h.at_ 0 _ rfl, h.at_ 1 _ rfl, h.at_ 2 _ rfl, h.at_ 3 _ rfl, h.at_ 4 _ rfl, h.at_ 5 _ rfl, h.at_ 6 _ rfl, h.at_ 7 _ rfl, h.at_ 8 _ rfl, h.at_ 9 _ rfl, h.at_ 10 _ rfl, h.at_ 11 _ rfl, h.at_ 12 _ rfl, h.at_ 13 _ rfl, h.lt⟩
theorem Cs.d14 {w : World} {g : Nat} {v0 v1 v2 v3 v4 v5 v6 v7 v8 v9 v10 v11 v12 v13 : Value} (h : Cs w g [v0, v1, v2, v3, v4, v5, v6, v7, v8, v9, v10, v11, v12, v13]) : w.cell? ⟨g, 0, none⟩ = some v0 /\ w.cell? ⟨g, 1, none⟩ = some v1 /\ w.cell? ⟨g, 2, none⟩ = some v2 /\ w.cell? ⟨g, 3, none⟩ = some v3 /\ w.cell? ⟨g, 4, none⟩ = some v4 /\ w.cell? ⟨g, 5, none⟩ = some v5 /\ w.cell? ⟨g, 6, none⟩ = some v6 /\ w.cell? ⟨g, 7, none⟩ = some v7 /\ w.cell? ⟨g, 8, none⟩ = some v8 /\ w.cell? ⟨g, 9, none⟩ = some v9 /\ w.cell? ⟨g, 10, none⟩ = some v10 /\ w.cell? ⟨g, 11, none⟩ = some v11 /\ w.cell? ⟨g, 12, none⟩ = some v12 /\ w.cell? ⟨g, 13, none⟩ = some v13 /\ w.frozen? ⟨g, 0, none⟩ = false /\ w.frozen? ⟨g, 1, none⟩ = false /\ w.frozen? ⟨g, 2, none⟩ = false /\ w.frozen? ⟨g, 3, none⟩ = false /\ w.frozen? ⟨g, 4, none⟩ = false /\ w.frozen? ⟨g, 5, none⟩ = false /\ w.frozen? ⟨g, 6, none⟩ = false /\ w.frozen? ⟨g, 7, none⟩ = false /\ w.frozen? ⟨g, 8, none⟩ = false /\ w.frozen? ⟨g, 9, none⟩ = false /\ w.frozen? ⟨g, 10, none⟩ = false /\ w.frozen? ⟨g, 11, none⟩ = false /\ w.frozen? ⟨g, 12, none⟩ = false /\ w.frozen? ⟨g, 13, none⟩ = false /\ g < w.heap.size := ⟨h.at_ 0 _ rfl, h.at_ 1 _ rfl, h.at_ 2 _ rfl, h.at_ 3 _ rfl, h.at_ 4 _ rfl, h.at_ 5 _ rfl, h.at_ 6 _ rfl, h.at_ 7 _ rfl, h.at_ 8 _ rfl, h.at_ 9 _ rfl, h.at_ 10 _ rfl, h.at_ 11 _ rfl, h.at_ 12 _ rfl, h.at_ 13 _ rfl, h.fz 0 (by simp), h.fz 1 (by simp), h.fz 2 (by simp), h.fz 3 (by simp), h.fz 4 (by simp), h.fz 5 (by simp), h.fz 6 (by simp), h.fz 7 (by simp), h.fz 8 (by simp), h.fz 9 (by simp), h.fz 10 (by simp), h.fz 11 (by simp), h.fz 12 (by simp), h.fz 13 (by simp), h.lt⟩
end Go.Proofs.YthaadiclopoamaaGreatDoor
/- Plain mathematics: what a record has beside what its kind asks for; stores of many cells. -/
set_option maxRecDepth 100000
set_option maxHeartbeats 8000000
namespace Go.Proofs.YthaadiclopoamaaGreatDoor
open Go.RowKit
open Df (Stp)

namespace Rc
/- what a record has beside what its kind asks for, and whether it has that -/
def wo (x : Rc) : Rc := if x.k = 1 then ⟨1, zM, x.a, x.v, x.d, x.S, x.t⟩ else if x.k = 2 then ⟨2, x.m, ⟨#[]⟩, 0, x.d, x.S, x.t⟩ else if x.k = 3 then ⟨3, x.m, x.a, x.v, ⟨#[]⟩, [], x.t⟩ else if x.k = 5 then ⟨5, x.m, x.a, x.v, x.d, x.S, ⟨#[]⟩⟩ else x
def woB (x : Rc) : Bool := if x.k = 1 then mvB x.m else if x.k = 2 then Act.nameB x.a && fiB x.v else if x.k = 3 then Df.defB x.d x.S else if x.k = 4 then true else if x.k = 5 then decide (x.t.size <= 29000) else false
def emR (x : Rc) : Bool := emB x.m && baB x.d x.S && (decide (x.a = ⟨#[]⟩) && decide (x.t = ⟨#[]⟩)) && decide (x.v = 0)
theorem em_z : emB zM = true := by decide
theorem ba_z : baB ⟨#[]⟩ [] = true := by decide
theorem wo_rc (x : Rc) : rcB x = (woB x && emR (wo x)) := by
 obtain ⟨k, m, a, v, d, S, t⟩ := x
 unfold rcB woB emR wo
 simp only
 by_cases h1 : k = 1
 ·subst h1
  simp only [if_true, if_neg (show ¬ (1 : Int) = 2 by decide), if_neg (show ¬ (1 : Int) = 3 by decide), if_neg (show ¬ (1 : Int) = 5 by decide), show inB 1 1 5 = true from rfl, em_z, Bool.true_and]
  cases mvB m <;> cases decide (a = (⟨#[]⟩ : ByteArray)) <;> cases decide (v = 0) <;> cases baB d S <;> cases decide (t = (⟨#[]⟩ : ByteArray)) <;> rfl
 by_cases h2 : k = 2
 ·subst h2
  simp only [if_true, if_neg (show ¬ (2 : Int) = 1 by decide), if_neg (show ¬ (2 : Int) = 3 by decide), if_neg (show ¬ (2 : Int) = 5 by decide), show inB 2 1 5 = true from rfl, Bool.true_and]
  cases emB m <;> cases Act.nameB a <;> cases fiB v <;> cases baB d S <;> cases decide (t = (⟨#[]⟩ : ByteArray)) <;> simp
 by_cases h3 : k = 3
 ·subst h3
  simp only [if_true, if_neg (show ¬ (3 : Int) = 1 by decide), if_neg (show ¬ (3 : Int) = 2 by decide), if_neg (show ¬ (3 : Int) = 5 by decide), show inB 3 1 5 = true from rfl, ba_z, Bool.true_and, Bool.and_true]
  cases emB m <;> cases decide (a = (⟨#[]⟩ : ByteArray)) <;> cases decide (v = 0) <;> cases Df.defB d S <;> cases decide (t = (⟨#[]⟩ : ByteArray)) <;> rfl
 by_cases h4 : k = 4
 ·subst h4
  simp only [if_true, if_neg (show ¬ (4 : Int) = 1 by decide), if_neg (show ¬ (4 : Int) = 2 by decide), if_neg (show ¬ (4 : Int) = 3 by decide), if_neg (show ¬ (4 : Int) = 5 by decide), show inB 4 1 5 = true from rfl, Bool.true_and]
  cases emB m <;> cases decide (a = (⟨#[]⟩ : ByteArray)) <;> cases decide (v = 0) <;> cases baB d S <;> cases decide (t = (⟨#[]⟩ : ByteArray)) <;> rfl
 by_cases h5 : k = 5
 ·subst h5
  simp only [if_true, if_neg (show ¬ (5 : Int) = 1 by decide), if_neg (show ¬ (5 : Int) = 2 by decide), if_neg (show ¬ (5 : Int) = 3 by decide), if_neg (show ¬ (5 : Int) = 4 by decide), show inB 5 1 5 = true from rfl, Bool.true_and]
  cases emB m <;> cases decide (a = (⟨#[]⟩ : ByteArray)) <;> cases decide (v = 0) <;> cases baB d S <;> cases decide (t.size <= 29000) <;> simp
 have hn : inB k 1 5 = false := by
  cases hb : inB k 1 5 with
  | false => rfl
  | true => have := inB_iff.1 hb; omega
 simp only [if_neg h1, if_neg h2, if_neg h3, if_neg h4, if_neg h5, hn, Bool.false_and]
end Rc

theorem StpsAt.far {w : World} {ad : Option Addr} {L : List Stp} (h : StpsAt w ad L) (p : Addr) (v : Value) (hp : ∀ a, ad = some a -> p.block ≠ a.block) : StpsAt (w.setCell p v) ad L := by
 intro j u hu
 obtain ⟨b, off, e, hb, hc⟩ := h j u hu
 refine ⟨b, off, e, by simpa using hb, ?_⟩
 exact (World.cell?_setCell_far _ _ _ _ (by simpa using hp _ e)).trans hc
theorem Cs.fill14 {w : World} {g : Nat} {zs : List Value} (h : Cs w g zs) (hl : zs.length = 14) (v0 v1 v2 v3 v4 v5 v6 v7 v8 v9 v10 v11 v12 v13 : Value) : Cs ((((((((((((((w.setCell ⟨g, 0, none⟩ v0).setCell ⟨g, 1, none⟩ v1).setCell ⟨g, 2, none⟩ v2).setCell ⟨g, 3, none⟩ v3).setCell ⟨g, 4, none⟩ v4).setCell ⟨g, 5, none⟩ v5).setCell ⟨g, 6, none⟩ v6).setCell ⟨g, 7, none⟩ v7).setCell ⟨g, 8, none⟩ v8).setCell ⟨g, 9, none⟩ v9).setCell ⟨g, 10, none⟩ v10).setCell ⟨g, 11, none⟩ v11).setCell ⟨g, 12, none⟩ v12).setCell ⟨g, 13, none⟩ v13) g [v0, v1, v2, v3, v4, v5, v6, v7, v8, v9, v10, v11, v12, v13] := by
 match zs, hl with
 | [z0, z1, z2, z3, z4, z5, z6, z7, z8, z9, z10, z11, z12, z13], _ => exact ((((((((((((((h.set 0 (by simp) v0).set 1 (by simp) v1).set 2 (by simp) v2).set 3 (by simp) v3).set 4 (by simp) v4).set 5 (by simp) v5).set 6 (by simp) v6).set 7 (by simp) v7).set 8 (by simp) v8).set 9 (by simp) v9).set 10 (by simp) v10).set 11 (by simp) v11).set 12 (by simp) v12).set 13 (by simp) v13)
theorem Cs.fill8 {w : World} {g : Nat} {zs : List Value} (h : Cs w g zs) (hl : zs.length = 8) (v0 v1 v2 v3 v4 v5 v6 v7 : Value) : Cs ((((((((w.setCell ⟨g, 0, none⟩ v0).setCell ⟨g, 1, none⟩ v1).setCell ⟨g, 2, none⟩ v2).setCell ⟨g, 3, none⟩ v3).setCell ⟨g, 4, none⟩ v4).setCell ⟨g, 5, none⟩ v5).setCell ⟨g, 6, none⟩ v6).setCell ⟨g, 7, none⟩ v7) g [v0, v1, v2, v3, v4, v5, v6, v7] := by
 match zs, hl with
 | [z0, z1, z2, z3, z4, z5, z6, z7], _ => exact ((((((((h.set 0 (by simp) v0).set 1 (by simp) v1).set 2 (by simp) v2).set 3 (by simp) v3).set 4 (by simp) v4).set 5 (by simp) v5).set 6 (by simp) v6).set 7 (by simp) v7)
theorem Gr.set14 {a w : World} (h : Gr a w) (g : Nat) (hg : a.heap.size <= g) (v0 v1 v2 v3 v4 v5 v6 v7 v8 v9 v10 v11 v12 v13 : Value) : Gr a ((((((((((((((w.setCell ⟨g, 0, none⟩ v0).setCell ⟨g, 1, none⟩ v1).setCell ⟨g, 2, none⟩ v2).setCell ⟨g, 3, none⟩ v3).setCell ⟨g, 4, none⟩ v4).setCell ⟨g, 5, none⟩ v5).setCell ⟨g, 6, none⟩ v6).setCell ⟨g, 7, none⟩ v7).setCell ⟨g, 8, none⟩ v8).setCell ⟨g, 9, none⟩ v9).setCell ⟨g, 10, none⟩ v10).setCell ⟨g, 11, none⟩ v11).setCell ⟨g, 12, none⟩ v12).setCell ⟨g, 13, none⟩ v13) := ((((((((((((((h.set ⟨g, 0, none⟩ hg v0).set ⟨g, 1, none⟩ hg v1).set ⟨g, 2, none⟩ hg v2).set ⟨g, 3, none⟩ hg v3).set ⟨g, 4, none⟩ hg v4).set ⟨g, 5, none⟩ hg v5).set ⟨g, 6, none⟩ hg v6).set ⟨g, 7, none⟩ hg v7).set ⟨g, 8, none⟩ hg v8).set ⟨g, 9, none⟩ hg v9).set ⟨g, 10, none⟩ hg v10).set ⟨g, 11, none⟩ hg v11).set ⟨g, 12, none⟩ hg v12).set ⟨g, 13, none⟩ hg v13)
theorem Cs.far14 {w : World} {b : Nat} {zs : List Value} (h : Cs w b zs) (g : Nat) (hg : g ≠ b) (v0 v1 v2 v3 v4 v5 v6 v7 v8 v9 v10 v11 v12 v13 : Value) : Cs ((((((((((((((w.setCell ⟨g, 0, none⟩ v0).setCell ⟨g, 1, none⟩ v1).setCell ⟨g, 2, none⟩ v2).setCell ⟨g, 3, none⟩ v3).setCell ⟨g, 4, none⟩ v4).setCell ⟨g, 5, none⟩ v5).setCell ⟨g, 6, none⟩ v6).setCell ⟨g, 7, none⟩ v7).setCell ⟨g, 8, none⟩ v8).setCell ⟨g, 9, none⟩ v9).setCell ⟨g, 10, none⟩ v10).setCell ⟨g, 11, none⟩ v11).setCell ⟨g, 12, none⟩ v12).setCell ⟨g, 13, none⟩ v13) b zs := ((((((((((((((h.far ⟨g, 0, none⟩ v0 hg).far ⟨g, 1, none⟩ v1 hg).far ⟨g, 2, none⟩ v2 hg).far ⟨g, 3, none⟩ v3 hg).far ⟨g, 4, none⟩ v4 hg).far ⟨g, 5, none⟩ v5 hg).far ⟨g, 6, none⟩ v6 hg).far ⟨g, 7, none⟩ v7 hg).far ⟨g, 8, none⟩ v8 hg).far ⟨g, 9, none⟩ v9 hg).far ⟨g, 10, none⟩ v10 hg).far ⟨g, 11, none⟩ v11 hg).far ⟨g, 12, none⟩ v12 hg).far ⟨g, 13, none⟩ v13 hg)
theorem Cs.far8 {w : World} {b : Nat} {zs : List Value} (h : Cs w b zs) (g : Nat) (hg : g ≠ b) (v0 v1 v2 v3 v4 v5 v6 v7 : Value) : Cs ((((((((w.setCell ⟨g, 0, none⟩ v0).setCell ⟨g, 1, none⟩ v1).setCell ⟨g, 2, none⟩ v2).setCell ⟨g, 3, none⟩ v3).setCell ⟨g, 4, none⟩ v4).setCell ⟨g, 5, none⟩ v5).setCell ⟨g, 6, none⟩ v6).setCell ⟨g, 7, none⟩ v7) b zs := ((((((((h.far ⟨g, 0, none⟩ v0 hg).far ⟨g, 1, none⟩ v1 hg).far ⟨g, 2, none⟩ v2 hg).far ⟨g, 3, none⟩ v3 hg).far ⟨g, 4, none⟩ v4 hg).far ⟨g, 5, none⟩ v5 hg).far ⟨g, 6, none⟩ v6 hg).far ⟨g, 7, none⟩ v7 hg)
theorem HopsAt.far14 {w : World} {ad : Option Addr} {L : List (Int × Int)} (h : HopsAt w ad L) (g : Nat) (hg : ∀ a, ad = some a -> g ≠ a.block) (v0 v1 v2 v3 v4 v5 v6 v7 v8 v9 v10 v11 v12 v13 : Value) : HopsAt ((((((((((((((w.setCell ⟨g, 0, none⟩ v0).setCell ⟨g, 1, none⟩ v1).setCell ⟨g, 2, none⟩ v2).setCell ⟨g, 3, none⟩ v3).setCell ⟨g, 4, none⟩ v4).setCell ⟨g, 5, none⟩ v5).setCell ⟨g, 6, none⟩ v6).setCell ⟨g, 7, none⟩ v7).setCell ⟨g, 8, none⟩ v8).setCell ⟨g, 9, none⟩ v9).setCell ⟨g, 10, none⟩ v10).setCell ⟨g, 11, none⟩ v11).setCell ⟨g, 12, none⟩ v12).setCell ⟨g, 13, none⟩ v13) ad L := ((((((((((((((h.set ⟨g, 0, none⟩ v0 hg).set ⟨g, 1, none⟩ v1 hg).set ⟨g, 2, none⟩ v2 hg).set ⟨g, 3, none⟩ v3 hg).set ⟨g, 4, none⟩ v4 hg).set ⟨g, 5, none⟩ v5 hg).set ⟨g, 6, none⟩ v6 hg).set ⟨g, 7, none⟩ v7 hg).set ⟨g, 8, none⟩ v8 hg).set ⟨g, 9, none⟩ v9 hg).set ⟨g, 10, none⟩ v10 hg).set ⟨g, 11, none⟩ v11 hg).set ⟨g, 12, none⟩ v12 hg).set ⟨g, 13, none⟩ v13 hg)
theorem HopsAt.far8 {w : World} {ad : Option Addr} {L : List (Int × Int)} (h : HopsAt w ad L) (g : Nat) (hg : ∀ a, ad = some a -> g ≠ a.block) (v0 v1 v2 v3 v4 v5 v6 v7 : Value) : HopsAt ((((((((w.setCell ⟨g, 0, none⟩ v0).setCell ⟨g, 1, none⟩ v1).setCell ⟨g, 2, none⟩ v2).setCell ⟨g, 3, none⟩ v3).setCell ⟨g, 4, none⟩ v4).setCell ⟨g, 5, none⟩ v5).setCell ⟨g, 6, none⟩ v6).setCell ⟨g, 7, none⟩ v7) ad L := ((((((((h.set ⟨g, 0, none⟩ v0 hg).set ⟨g, 1, none⟩ v1 hg).set ⟨g, 2, none⟩ v2 hg).set ⟨g, 3, none⟩ v3 hg).set ⟨g, 4, none⟩ v4 hg).set ⟨g, 5, none⟩ v5 hg).set ⟨g, 6, none⟩ v6 hg).set ⟨g, 7, none⟩ v7 hg)
theorem StpsAt.far14 {w : World} {ad : Option Addr} {L : List Stp} (h : StpsAt w ad L) (g : Nat) (hg : ∀ a, ad = some a -> g ≠ a.block) (v0 v1 v2 v3 v4 v5 v6 v7 v8 v9 v10 v11 v12 v13 : Value) : StpsAt ((((((((((((((w.setCell ⟨g, 0, none⟩ v0).setCell ⟨g, 1, none⟩ v1).setCell ⟨g, 2, none⟩ v2).setCell ⟨g, 3, none⟩ v3).setCell ⟨g, 4, none⟩ v4).setCell ⟨g, 5, none⟩ v5).setCell ⟨g, 6, none⟩ v6).setCell ⟨g, 7, none⟩ v7).setCell ⟨g, 8, none⟩ v8).setCell ⟨g, 9, none⟩ v9).setCell ⟨g, 10, none⟩ v10).setCell ⟨g, 11, none⟩ v11).setCell ⟨g, 12, none⟩ v12).setCell ⟨g, 13, none⟩ v13) ad L := ((((((((((((((h.far ⟨g, 0, none⟩ v0 hg).far ⟨g, 1, none⟩ v1 hg).far ⟨g, 2, none⟩ v2 hg).far ⟨g, 3, none⟩ v3 hg).far ⟨g, 4, none⟩ v4 hg).far ⟨g, 5, none⟩ v5 hg).far ⟨g, 6, none⟩ v6 hg).far ⟨g, 7, none⟩ v7 hg).far ⟨g, 8, none⟩ v8 hg).far ⟨g, 9, none⟩ v9 hg).far ⟨g, 10, none⟩ v10 hg).far ⟨g, 11, none⟩ v11 hg).far ⟨g, 12, none⟩ v12 hg).far ⟨g, 13, none⟩ v13 hg)
theorem StpsAt.far8 {w : World} {ad : Option Addr} {L : List Stp} (h : StpsAt w ad L) (g : Nat) (hg : ∀ a, ad = some a -> g ≠ a.block) (v0 v1 v2 v3 v4 v5 v6 v7 : Value) : StpsAt ((((((((w.setCell ⟨g, 0, none⟩ v0).setCell ⟨g, 1, none⟩ v1).setCell ⟨g, 2, none⟩ v2).setCell ⟨g, 3, none⟩ v3).setCell ⟨g, 4, none⟩ v4).setCell ⟨g, 5, none⟩ v5).setCell ⟨g, 6, none⟩ v6).setCell ⟨g, 7, none⟩ v7) ad L := ((((((((h.far ⟨g, 0, none⟩ v0 hg).far ⟨g, 1, none⟩ v1 hg).far ⟨g, 2, none⟩ v2 hg).far ⟨g, 3, none⟩ v3 hg).far ⟨g, 4, none⟩ v4 hg).far ⟨g, 5, none⟩ v5 hg).far ⟨g, 6, none⟩ v6 hg).far ⟨g, 7, none⟩ v7 hg)
theorem Gr.set2 {a w : World} (h : Gr a w) (g : Nat) (hg : a.heap.size <= g) (v0 v1 : Value) : Gr a ((w.setCell ⟨g, 0, none⟩ v0).setCell ⟨g, 1, none⟩ v1) := ((h.set ⟨g, 0, none⟩ hg v0).set ⟨g, 1, none⟩ hg v1)
theorem Cs.far3 {w : World} {b : Nat} {zs : List Value} (h : Cs w b zs) (g : Nat) (hg : g ≠ b) (v0 v1 v2 : Value) : Cs (((w.setCell ⟨g, 0, none⟩ v0).setCell ⟨g, 1, none⟩ v1).setCell ⟨g, 2, none⟩ v2) b zs := (((h.far ⟨g, 0, none⟩ v0 hg).far ⟨g, 1, none⟩ v1 hg).far ⟨g, 2, none⟩ v2 hg)
theorem Cs.far2 {w : World} {b : Nat} {zs : List Value} (h : Cs w b zs) (g : Nat) (hg : g ≠ b) (v0 v1 : Value) : Cs ((w.setCell ⟨g, 0, none⟩ v0).setCell ⟨g, 1, none⟩ v1) b zs := ((h.far ⟨g, 0, none⟩ v0 hg).far ⟨g, 1, none⟩ v1 hg)
theorem HopsAt.far3 {w : World} {ad : Option Addr} {L : List (Int × Int)} (h : HopsAt w ad L) (g : Nat) (hg : ∀ a, ad = some a -> g ≠ a.block) (v0 v1 v2 : Value) : HopsAt (((w.setCell ⟨g, 0, none⟩ v0).setCell ⟨g, 1, none⟩ v1).setCell ⟨g, 2, none⟩ v2) ad L := (((h.set ⟨g, 0, none⟩ v0 hg).set ⟨g, 1, none⟩ v1 hg).set ⟨g, 2, none⟩ v2 hg)
theorem HopsAt.far2 {w : World} {ad : Option Addr} {L : List (Int × Int)} (h : HopsAt w ad L) (g : Nat) (hg : ∀ a, ad = some a -> g ≠ a.block) (v0 v1 : Value) : HopsAt ((w.setCell ⟨g, 0, none⟩ v0).setCell ⟨g, 1, none⟩ v1) ad L := ((h.set ⟨g, 0, none⟩ v0 hg).set ⟨g, 1, none⟩ v1 hg)
theorem StpsAt.far3 {w : World} {ad : Option Addr} {L : List Stp} (h : StpsAt w ad L) (g : Nat) (hg : ∀ a, ad = some a -> g ≠ a.block) (v0 v1 v2 : Value) : StpsAt (((w.setCell ⟨g, 0, none⟩ v0).setCell ⟨g, 1, none⟩ v1).setCell ⟨g, 2, none⟩ v2) ad L := (((h.far ⟨g, 0, none⟩ v0 hg).far ⟨g, 1, none⟩ v1 hg).far ⟨g, 2, none⟩ v2 hg)
theorem StpsAt.far2 {w : World} {ad : Option Addr} {L : List Stp} (h : StpsAt w ad L) (g : Nat) (hg : ∀ a, ad = some a -> g ≠ a.block) (v0 v1 : Value) : StpsAt ((w.setCell ⟨g, 0, none⟩ v0).setCell ⟨g, 1, none⟩ v1) ad L := ((h.far ⟨g, 0, none⟩ v0 hg).far ⟨g, 1, none⟩ v1 hg)
end Go.Proofs.YthaadiclopoamaaGreatDoor
/- pack.TakeNumber takes what Pk.takeNum takes. -/
set_option maxRecDepth 100000
set_option maxHeartbeats 8000000
namespace Go.Proofs.YthaadiclopoamaaGreatDoor
open Go.RowKit

def lastB (i c : Int) : Bool := !(decide ((i = 9 /\ 1 < c) ∨ (i ≠ 0 /\ c = 0)))

theorem lastGroup_any (i c : Int) (w : World) :
  Calls Tryz.prog 112 #[.int .i64 i, .int .u8 c] w fun e w' => e = .returned (.bool (lastB i c)) /\ w' = w := by
 by_cases a : i = 9
 ·subst a
  by_cases b : 1 < c
  ·go_enter Tryz.func112, Tryz.ntmps112
   go_wp2
   go_ret
   exact ⟨by simp [lastB, b], rfl⟩
  ·by_cases b2 : c = 0
   ·subst b2
    go_enter Tryz.func112, Tryz.ntmps112
    go_wp2
    go_ret
    exact ⟨by simp [lastB], rfl⟩
   ·have b3 : (c != 0) = true := by simpa using b2
    have hl : lastB 9 c = true := by simp [lastB, b, b2]
    rw [hl]
    clear hl
    go_enter Tryz.func112, Tryz.ntmps112
    go_wp2
    go_ret
    exact ⟨rfl, rfl⟩
 ·have a9 : (i == 9) = false := by simpa using a
  by_cases a0 : i = 0
  ·subst a0
   go_enter Tryz.func112, Tryz.ntmps112
   go_wp2
   go_ret
   exact ⟨by simp [lastB], rfl⟩
  ·have a1 : (i == 0) = false := by simpa using a0
   have hl : lastB i c = (c != 0) := by by_cases hc : c = 0 <;> simp [lastB, a, a0, hc]
   rw [hl]
   clear hl
   go_enter Tryz.func112, Tryz.ntmps112
   go_wp2
   go_ret
   exact ⟨rfl, rfl⟩

theorem or_group (x c k : Nat) (hk : k <= 9) (hx : x < 128 ^ k) (hc : c * 128 ^ k < 18446744073709551616) :
  bits .or .u64 (x : Int) (IntKind.u64.wrap ((c : Int) * 2 ^ (7 * k))) = ((x + c * 128 ^ k : Nat) : Int) := by
 have e : (2 : Nat) ^ (7 * k) = 128 ^ k := by rw [Nat.pow_mul]
 have e1 : ((c : Int) * 2 ^ (7 * k)) = ((c * 128 ^ k : Nat) : Int) := by rw [<- e]; simp
 have hx64 : x < 18446744073709551616 := Nat.lt_of_lt_of_le hx (Nat.le_trans (Nat.pow_le_pow_right (by omega) hk) (by decide))
 rw [e1, w64 _ (by omega) (by omega), bits_or_u64_nat _ _ hx64 hc]
 have := Nat.two_pow_add_eq_or_of_lt (i := 7 * k) (b := x) (by rw [e]; exact hx) c
 rw [e, Nat.mul_comm] at this
 rw [Nat.or_comm, <- this, Nat.add_comm]

theorem or_any (x : Nat) (z : Int) (hx : x < 18446744073709551616) : ∃ y : Nat, y < 18446744073709551616 /\ bits .or .u64 (x : Int) (IntKind.u64.wrap z) = (y : Int) := by
 have h0 : 0 <= IntKind.u64.wrap z := by rw [IntKind.wrap_u64]; omega
 have h1 : IntKind.u64.wrap z < 18446744073709551616 := by rw [IntKind.wrap_u64]; omega
 obtain ⟨q, hq⟩ := Int.eq_ofNat_of_zero_le h0
 rw [hq] at h1 ⊢
 refine ⟨x ||| q, ?_, bits_or_u64_nat x q hx (by omega)⟩
 exact Nat.or_lt_two_pow (n := 64) hx (by omega)

theorem drop_at (s : ByteArray) (n : Nat) (h : n < s.size) : s.data.toList.drop n = s[n] :: s.data.toList.drop (n + 1) := by
 rw [List.drop_eq_getElem_cons (by simpa using h)]; rfl

theorem takeNum_in (l : List UInt8) (a : Nat) (h : a <= l.length) (r : Nat × Nat × Nat) (hr : Pk.take (l.drop a) = r) :
  Pk.takeNum l (a : Int) = (r.1, if r.2.2 = 0 then a + r.2.1 else 0, r.2.2) := by
 unfold Pk.takeNum
 rw [if_pos ⟨by omega, by omega⟩, Int.toNat_natCast, hr]
theorem takeNum_out (l : List UInt8) (p : Int) (h : ¬ (0 <= p /\ p <= l.length)) : Pk.takeNum l p = (0, 0, 2) := by
 unfold Pk.takeNum
 rw [if_neg h]
theorem takeNumber_any (s : ByteArray) (p : Int) (w : World) (hs : s.size <= 140737488355328) :
  Calls Tryz.prog 91 #[.string s, .int .i64 p] w fun e w' => e = .returned (.tuple #[.int .u64 (Pk.takeNum s.data.toList p).1, .int .i64 (Pk.takeNum s.data.toList p).2.1, .int .i64 (Pk.takeNum s.data.toList p).2.2]) /\ w' = w := by
 have hsz : s.data.toList.length = s.size := by simp
 by_cases hp : 0 <= p /\ p <= s.size
 ·obtain ⟨hp0, hp1⟩ := hp
  obtain ⟨a, rfl⟩ := Int.eq_ofNat_of_zero_le hp0
  have HN := takeNum_in s.data.toList a (by omega)
  have HN' : Hid (∀ (r : Nat × Nat × Nat), Pk.take (List.drop a s.data.toList) = r -> Pk.takeNum s.data.toList (a : Int) = (r.1, if r.2.2 = 0 then a + r.2.1 else 0, r.2.2)) := HN
  clear HN hsz
  generalize Pk.takeNum s.data.toList (a : Int) = R at *
  have ht1 : decide ((a : Int) < 0) = false := by simp
  have ht2 : decide ((s.size : Int) < (a : Int)) = false := by simp; omega
  have ht3 : decide (s.size < a) = false := by simp; omega
  go_enter Tryz.func91, Tryz.ntmps91
  go_wp2
  go_loop [7, 18] (fun n i => ∃ k x y : Nat, k <= 10 /\ i = .int .i64 k /\ n = .int .u64 x /\ x < 18446744073709551616 /\ (k <= 9 -> x = y /\ y < 128 ^ k) /\ a + k <= s.size /\ Pk.take (s.data.toList.drop a) = Pk.takeF (10 - k) k y (s.data.toList.drop (a + k))) (fun _ i => 10 - (intOf i).toNat)
  case atStart => exact ⟨0, 0, 0, by omega, rfl, rfl, by omega, by simp, by omega, rfl⟩
  case round =>
   obtain ⟨k, x, y, hk, rfl, rfl, hx64, hx, hks, ht⟩ := hrel
   by_cases hlt : k < 10
   ·obtain ⟨rfl, hxk⟩ := hx (by omega)
    clear hx
    obtain ⟨f, hf⟩ : ∃ f, 10 - k = f + 1 := ⟨9 - k, by omega⟩
    rw [hf] at ht
    have HF : Hid (10 - k = f + 1) := hf
    clear hf
    by_cases he : a + k = s.size
    ·rw [show s.data.toList.drop (a + k) = [] from List.drop_eq_nil_of_le (by rw [show s.data.toList.length = s.size from by simp]; omega), Pk.takeF] at ht
     have hR := HN'.out _ ht
     have HR : Hid (R = (0, 0, 10)) := by show R = _; simpa using hR
     clear ht hR HN' hxk
     go_wp2
     go_ret3
     refine ⟨?_, rfl⟩
     rw [HR.out]; rfl
    ·have hin : a + k < s.size := by omega
     rw [drop_at s (a + k) hin, Pk.takeF] at ht
     obtain ⟨z, hz64, hz⟩ := or_any x (((s[a + k]'hin).toNat : Int) % 128 * 2 ^ (7 * k)) hx64
     have hcb : (s[a + k]'hin).toNat < 256 := (s[a + k]'hin).toNat_lt
     have hzv : (k < 9 ∨ (s[a + k]'hin).toNat <= 1) -> z = x + (s[a + k]'hin).toNat % 128 * 128 ^ k := by
      intro hor
      have hb : (s[a + k]'hin).toNat % 128 * 128 ^ k < 18446744073709551616 := by
       rcases hor with h | h
       ·have : 128 ^ k <= 128 ^ 8 := Nat.pow_le_pow_right (by omega) (by omega)
        have h2 : (s[a + k]'hin).toNat % 128 <= 127 := by omega
        exact Nat.lt_of_le_of_lt (Nat.mul_le_mul h2 this) (by decide)
       ·have : 128 ^ k <= 128 ^ 9 := Nat.pow_le_pow_right (by omega) (by omega)
        have h2 : (s[a + k]'hin).toNat % 128 <= 1 := by omega
        exact Nat.lt_of_le_of_lt (Nat.mul_le_mul h2 this) (by decide)
      have := or_group x ((s[a + k]'hin).toNat % 128) k (by omega) hxk hb
      rw [Int.natCast_emod] at this
      have h3 := hz.symm.trans this
      omega
     have HZ : Hid ((k < 9 ∨ (s[a + k]'hin).toNat <= 1) -> z = x + (s[a + k]'hin).toNat % 128 * 128 ^ k) := hzv
     have HK : Hid (x < 128 ^ k) := hxk
     clear hzv hxk
     by_cases hge : 128 <= (s[a + k]'hin).toNat
     ·rw [if_pos hge] at ht
      have HT : Hid (Pk.take (List.drop a s.data.toList) = Pk.takeF f (k + 1) (x + (s[a + k]'hin).toNat % 128 * 128 ^ k) (List.drop (a + k + 1) s.data.toList)) := ht
      clear ht
      go_wp2
      go_round
      case rel =>
       refine ⟨k + 1, z, x + (s[a + k]'hin).toNat % 128 * 128 ^ k, by omega, by go_num, rfl, hz64, ?_, by omega, ?_⟩
       ·intro h9
        refine ⟨HZ.out (Or.inl (by omega)), ?_⟩
        have h2 : (s[a + k]'hin).toNat % 128 <= 127 := by omega
        have h3 := HK.out
        have h4 := Nat.mul_le_mul_right (128 ^ k) h2
        rw [Nat.pow_succ]; omega
       ·rw [HT.out, show 10 - (k + 1) = f from by have := HF.out; omega]; rfl
      case measure => simp [intOf]; omega
     ·rw [if_neg hge] at ht
      by_cases hl : (k = 9 /\ 1 < (s[a + k]'hin).toNat) ∨ (k ≠ 0 /\ (s[a + k]'hin).toNat = 0)
      ·rw [if_pos hl] at ht
       have hR := HN'.out _ ht
       have HR : Hid (R = (0, 0, 11)) := by show R = _; simpa using hR
       have hL : lastB (k : Int) ((s[a + k]'hin).toNat : Int) = false := by
        simp only [lastB, Bool.not_eq_false', decide_eq_true_eq]; omega
       clear ht hR HN' hl
       go_wp2_with (go_at_call 112; refine (lastGroup_any _ _ _).mono ?_; rintro e w' ⟨rfl, rfl⟩)
       go_ret3
       refine ⟨?_, rfl⟩
       rw [HR.out]; rfl
      ·rw [if_neg hl] at ht
       have hR := HN'.out _ ht
       have hz9 := HZ.out (by omega)
       have HR : Hid (R = (z, a + k + 1, 0)) := by
        show R = _
        rw [hR, hz9, Nat.mod_eq_of_lt (by omega)]; simp [Nat.add_assoc]
       have hL : lastB (k : Int) ((s[a + k]'hin).toNat : Int) = true := by
        simp only [lastB, Bool.not_eq_true', decide_eq_false_iff_not]; omega
       clear ht hR HN' hl hz9
       go_wp2_with (go_at_call 112; refine (lastGroup_any _ _ _).mono ?_; rintro e w' ⟨rfl, rfl⟩)
       go_ret3
       refine ⟨?_, rfl⟩
       rw [HR.out]; go_num
   ·have hk10 : k = 10 := by omega
    subst hk10
    have hR := HN'.out _ ht
    have HR : Hid (R = (0, 0, 11)) := by show R = _; simpa [Pk.takeF] using hR
    clear ht hR HN' hx
    go_wp2
    go_ret3
    refine ⟨?_, rfl⟩
    rw [HR.out]; rfl
 ·rw [takeNum_out _ _ (by rw [hsz]; exact hp)]
  rcases (show p < 0 ∨ (0 <= p /\ (s.size : Int) < p) from by omega) with h | ⟨h, h2⟩
  all_goals
   clear hp
   go_enter Tryz.func91, Tryz.ntmps91
   go_wp2
   go_ret3
   exact ⟨rfl, rfl⟩
end Go.Proofs.YthaadiclopoamaaGreatDoor
/- pack.TakeSigned takes the number that pack.TakeNumber's stands for. -/
set_option maxRecDepth 100000
set_option maxHeartbeats 8000000
namespace Go.Proofs.YthaadiclopoamaaGreatDoor
open Go.RowKit

theorem takeSigned_any (s : ByteArray) (p : Int) (w : World) (hs : s.size <= 140737488355328) :
  Calls Tryz.prog 95 #[.string s, .int .i64 p] w fun e w' => e = .returned (.tuple #[.int .i64 (Pk.unsg (Pk.takeNum s.data.toList p).1), .int .i64 (Pk.takeNum s.data.toList p).2.1, .int .i64 (Pk.takeNum s.data.toList p).2.2]) /\ w' = w := by
 have hsp := Pk.takeNum_spec s.data.toList p
 have HC : Hid (∀ w : World, Calls Tryz.prog 91 #[.string s, .int .i64 p] w fun e w' => e = .returned (.tuple #[.int .u64 (Pk.takeNum s.data.toList p).1, .int .i64 (Pk.takeNum s.data.toList p).2.1, .int .i64 (Pk.takeNum s.data.toList p).2.2]) /\ w' = w) := fun w => takeNumber_any s p w hs
 generalize Pk.takeNum s.data.toList p = R at *
 obtain ⟨n, q, e⟩ := R
 simp only at *
 rcases hsp with ⟨rfl, h1, h2, h3, h4⟩ | h | h | h
 ·by_cases he : n % 2 = 0
  ·have hu : Pk.unsg n = ((n / 2 : Nat) : Int) := by simp [Pk.unsg, he]
   have hz : ((n : Int) % 2 == 0) = true := by simp; omega
   rw [hu]
   clear hu h2 h3 h4
   go_enter Tryz.func95, Tryz.ntmps95
   go_wp2_with fail
   refine (HC.out _).mono ?_
   rintro e w1 ⟨rfl, rfl⟩
   go_wp2
   go_ret3
   exact ⟨by simp, rfl⟩
  ·have hu : Pk.unsg n = -((n / 2 : Nat) : Int) - 1 := by simp [Pk.unsg, he]
   have hz : ((n : Int) % 2 == 0) = false := by simp; omega
   rw [hu]
   clear hu h2 h3 h4
   go_enter Tryz.func95, Tryz.ntmps95
   go_wp2_with fail
   refine (HC.out _).mono ?_
   rintro e w1 ⟨rfl, rfl⟩
   go_wp2
   go_ret3
   exact ⟨by simp, rfl⟩
 all_goals
  simp only [Prod.mk.injEq] at h
  obtain ⟨rfl, rfl, rfl⟩ := h
  have hu : Pk.unsg 0 = 0 := rfl
  rw [hu]
  clear hu
  go_enter Tryz.func95, Tryz.ntmps95
  go_wp2_with fail
  refine (HC.out _).mono ?_
  rintro e w1 ⟨rfl, rfl⟩
  go_wp2
  go_ret3
  exact ⟨by simp, rfl⟩
end Go.Proofs.YthaadiclopoamaaGreatDoor
/- An id that came in, opened. -/
set_option maxRecDepth 100000
set_option maxHeartbeats 8000000
namespace Go.Proofs.YthaadiclopoamaaGreatDoor
open Go.ChangeShapes Go.WideShapes Go.ChangeAt Go.RowKit

theorem open_hops {H : Type} {enc : TypeId × Value -> H} {W : World} {base : Nat} {sp : Nat -> Bool} {held : Bool} {fuel : Nat} {c : Value} {x : DataW H × List MemPlace}
  (h : DataW.trod enc Tryz.prog W base sp held fuel 22 [c] = some x) :
  ∃ ad cap, ∃ L : List (Int × Int), c = .slice ad L.length cap /\ HopsAt W ad L /\ L.length <= 9223372036854775807 /\ L.length <= cap /\ (ad = none -> cap = 0) := by
 rcases Deep.open_slice_pairs Tryz.underlying22 Tryz.underlying85 (by kernel_rfl) rfl rfl (by kernel_rfl) (by kernel_rfl) h with ⟨hcs, _⟩ | ⟨a, len, cap, m, n, V0, V1, D0, D1, P0, P1, hcs, _, hl, hm, hmm, _, hx⟩
 ·simp at hcs
  subst hcs
  exact ⟨none, 0, [], rfl, HopsAt.nil, by simp, by simp, fun _ => rfl⟩
 ·simp at hcs
  subst hcs
  have hlm : len <= m := by rw [hmm]; split <;> omega
  have hint : ∀ i, i < len -> ∃ q : Int × Int, W.cell? (a.add (i * 2)) = some (.int .i64 q.1) /\ W.cell? (a.add (i * 2 + 1)) = some (.int .i64 q.2) := by
   intro i hi
   obtain ⟨h0, h1, t0, t1⟩ := hx i (by omega)
   obtain ⟨z0, e0, _⟩ := DataW.trod_int Tryz.underlying3 t0
   obtain ⟨z1, e1, _⟩ := DataW.trod_int Tryz.underlying3 t1
   simp at e0 e1
   exact ⟨(z0, z1), by rw [h0, e0], by rw [h1, e1]⟩
  obtain ⟨q, hq⟩ := Deep.choose_lt hint
  unfold maxLen at hm
  refine ⟨some a, cap, (List.range len).map q, by simp, ?_, by simp; omega, by simpa using hl, fun e => by cases e⟩
  intro j hj
  have hj' : j < len := by simpa using hj
  obtain ⟨c0, c1⟩ := hq j hj'
  obtain ⟨b, off, spot⟩ := a
  have hspot : spot = none := by simpa [Addr.add] using World.cell?_spot (hq 0 (by omega)).1
  subst hspot
  rw [Addr.add_lit] at c0 c1
  refine ⟨b, off, rfl, World.block_lt_of_cell? W _ c0, by simpa using c0, ?_⟩
  rw [<- Nat.add_assoc] at c1
  simpa using c1

end Go.Proofs.YthaadiclopoamaaGreatDoor
