/- Parts of these proofs, laid together. -/
import Derived.Test.YthaadiclopoamaaGreatDoorProg
import Derived.WalkKit
import Derived.WalkSpells
import Derived.WalkLawsBesides
import Derived.Laws.IdiomStrings
import Derived.Lib.UnsafeStr
import Derived.KernelRfl
import Derived.Deep.RegionWith
import Derived.Deep.DrawnRows
import Init.Data.List
import Derived.Laws.OwnMore
import Derived.Maps.AppendAt
import Derived.Test.YthaadiclopoamaaGreatDoorShelf
import Derived.Deep.RegionHeld3
import Derived.Lib.AppendZeros
import Derived.Laws.AppendOwnNone
import Derived.BigRegion
import Derived.Lib.ItoaNum
/- Plain functions on numbers and lists of bytes that say what package pack lays and takes, and their laws; nothing of the program. -/
set_option maxRecDepth 100000
set_option maxHeartbeats 8000000
namespace Pk

def numF : Nat -> Nat -> List UInt8
 | 0, n => [UInt8.ofNat n]
 | f + 1, n => if n < 128 then [UInt8.ofNat n] else UInt8.ofNat (n % 128 + 128) :: numF f (n / 128)
def num (n : Nat) : List UInt8 := numF 9 n

theorem numF_lt (f n : Nat) (h : n < 128) : numF f n = [UInt8.ofNat n] := by
 cases f with
 | zero => rfl
 | succ f => simp [numF, h]
theorem numF_ge (f n : Nat) (h : ¬ n < 128) : numF (f + 1) n = UInt8.ofNat (n % 128 + 128) :: numF f (n / 128) := by
 simp [numF, h]
theorem numF_len (f n : Nat) : 1 <= (numF f n).length /\ (numF f n).length <= f + 1 := by
 induction f generalizing n with
 | zero => simp [numF]
 | succ f ih =>
  by_cases h : n < 128
  ·simp [numF, h]
  ·have := ih (n / 128)
   simp [numF, h]; omega
theorem num_len (n : Nat) : 1 <= (num n).length /\ (num n).length <= 10 := numF_len 9 n
/- the fuel is of no matter where it suffices -/
/- a number that may be below 0, as one that is not -/
def sgn (m : Int) : Nat := if 0 <= m then 2 * m.toNat else 2 * (-(m + 1)).toNat + 1
theorem sgn_lt (m : Int) (h0 : -9223372036854775808 <= m) (h1 : m < 9223372036854775808) : sgn m < 18446744073709551616 := by
 unfold sgn; split <;> omega
theorem sgn_pos (m : Int) (h : 0 <= m) : (sgn m : Int) = m * 2 := by unfold sgn; rw [if_pos h]; omega
theorem sgn_neg (m : Int) (h : ¬ 0 <= m) : (sgn m : Int) = -(m + 1) * 2 + 1 := by unfold sgn; rw [if_neg h]; omega

/- taking a number: its value, how many bytes it is, the error -/
def takeF : Nat -> Nat -> Nat -> List UInt8 -> Nat × Nat × Nat
 | 0, _, _, _ => (0, 0, 11)
 | _ + 1, _, _, [] => (0, 0, 10)
 | f + 1, i, a, b :: r =>
  if 128 <= b.toNat then takeF f (i + 1) (a + b.toNat % 128 * 128 ^ i) r
  else if (i = 9 /\ 1 < b.toNat) ∨ (i ≠ 0 /\ b.toNat = 0) then (0, 0, 11)
  else (a + b.toNat * 128 ^ i, i + 1, 0)
def take (l : List UInt8) : Nat × Nat × Nat := takeF 10 0 0 l
def takeNum (s : List UInt8) (p : Int) : Nat × Nat × Nat :=
 if 0 <= p /\ p <= s.length then ((take (s.drop p.toNat)).1, if (take (s.drop p.toNat)).2.2 = 0 then p.toNat + (take (s.drop p.toNat)).2.1 else 0, (take (s.drop p.toNat)).2.2) else (0, 0, 2)

theorem takeF_spec (f : Nat) : ∀ (i a : Nat) (l : List UInt8), f + i = 10 -> a < 128 ^ i ->
  ((takeF f i a l).2.2 = 0 /\ (takeF f i a l).1 < 18446744073709551616 /\ i + 1 <= (takeF f i a l).2.1 /\ (takeF f i a l).2.1 <= i + l.length) ∨
  takeF f i a l = (0, 0, 10) ∨ takeF f i a l = (0, 0, 11) := by
 induction f with
 | zero => intro i a l _ _; right; right; simp [takeF]
 | succ f ih =>
  intro i a l hi ha
  cases l with
  | nil => right; left; simp [takeF]
  | cons b r =>
   have hb : b.toNat < 256 := b.toNat_lt
   rw [takeF]
   split
   ·rename_i hge
    have hm : b.toNat % 128 <= 127 := by omega
    have := ih (i + 1) (a + b.toNat % 128 * 128 ^ i) r (by omega) (by
     have := Nat.mul_le_mul_right (128 ^ i) hm
     rw [Nat.pow_succ]; omega)
    rcases this with ⟨h1, h2, h3, h4⟩ | h | h
    ·left; refine ⟨h1, h2, by omega, ?_⟩; simp; omega
    ·right; left; exact h
    ·right; right; exact h
   ·split
    ·right; right; rfl
    ·rename_i hlt hl
     left
     refine ⟨rfl, ?_, Nat.le_refl _, by simp⟩
     by_cases h9 : i = 9
     ·subst h9
      have hb1 : b.toNat <= 1 := by omega
      have := Nat.mul_le_mul_right (128 ^ 9) hb1
      simp only at *
      omega
     ·have hb1 : b.toNat <= 127 := by omega
      have h1 := Nat.mul_le_mul_right (128 ^ i) hb1
      have h2 : 128 ^ (i + 1) <= 128 ^ 9 := Nat.pow_le_pow_right (by omega) (by omega)
      rw [Nat.pow_succ] at h2
      simp only at *
      omega
theorem take_spec (l : List UInt8) :
  ((take l).2.2 = 0 /\ (take l).1 < 18446744073709551616 /\ 1 <= (take l).2.1 /\ (take l).2.1 <= l.length) ∨ take l = (0, 0, 10) ∨ take l = (0, 0, 11) := by
 have := takeF_spec 10 0 0 l rfl (by simp)
 simpa [take] using this
theorem takeNum_spec (s : List UInt8) (p : Int) :
  ((takeNum s p).2.2 = 0 /\ (takeNum s p).1 < 18446744073709551616 /\ 0 <= p /\ p < (takeNum s p).2.1 /\ (takeNum s p).2.1 <= s.length) ∨
  takeNum s p = (0, 0, 2) ∨ takeNum s p = (0, 0, 10) ∨ takeNum s p = (0, 0, 11) := by
 unfold takeNum
 by_cases hp : 0 <= p /\ p <= s.length
 ·rw [if_pos hp]
  rcases take_spec (s.drop p.toNat) with ⟨h1, h2, h3, h4⟩ | h | h
  ·left
   rw [List.length_drop] at h4
   simp only [h1, if_true]
   refine ⟨trivial, h2, hp.1, ?_, ?_⟩ <;> omega
  ·right; right; left; rw [h]; simp
  ·right; right; right; rw [h]; simp
 ·rw [if_neg hp]; right; left; rfl
def unsg (n : Nat) : Int := if n % 2 = 0 then ((n / 2 : Nat) : Int) else -((n / 2 : Nat) : Int) - 1

/- texts, one behind the other, each behind its length -/
def text (s : List UInt8) : List UInt8 := num s.length ++ s
end Pk
/- Small laws for walks: 'Gr w w': nothing that lay in w has turned in w', which may hold more; wraps; bytes made strings. -/
set_option maxRecDepth 100000
set_option maxHeartbeats 8000000
namespace Go.Proofs.YthaadiclopoamaaGreatDoor
open Go.RowKit

structure Gr (w w' : World) : Prop where
 below : Below w.heap.size w w'
theorem Gr.refl (w : World) : Gr w w := ⟨Below.refl _ _⟩
theorem Gr.trans {a b c : World} (h : Gr a b) (k : Gr b c) : Gr a c := ⟨h.below.trans (k.below.mono h.below.size)⟩
theorem Gr.alloc {a b : World} (h : Gr a b) {o : Obj} : Gr a (b.alloc o) := ⟨h.below.alloc h.below.size _⟩
theorem Gr.drew {a b : World} (h : Gr a b) : Gr a b.drew := ⟨h.below.drew⟩
theorem Gr.r (w : World) : Gr w w := Gr.refl w
theorem Gr.a {a b : World} (h : Gr a b) {o : Obj} : Gr a (b.alloc o) := h.alloc
theorem Gr.d {a b : World} (h : Gr a b) : Gr a b.drew := h.drew
theorem Gr.t {a b c : World} (h : Gr a b) (k : Gr b c) : Gr a c := h.trans k
theorem Gr.size {a b : World} (h : Gr a b) : a.heap.size <= b.heap.size := h.below.size
theorem Gr.cells {W w1 : World} (h : Gr W w1) : (∀ b o, b < W.heap.size -> w1.cell? ⟨b, o, none⟩ = W.cell? ⟨b, o, none⟩) /\ (∀ b o, b < W.heap.size -> w1.frozen? ⟨b, o, none⟩ = W.frozen? ⟨b, o, none⟩) :=
 ⟨fun b o hb => h.below.cell (p := ⟨b, o, none⟩) hb, fun b o hb => h.below.frozen (p := ⟨b, o, none⟩) hb⟩
theorem Gr.of {w w' : World} (h : Below w.heap.size w w') : Gr w w' := ⟨h⟩

theorem w64 (n : Int) (h0 : 0 <= n) (h1 : n < 18446744073709551616) : IntKind.u64.wrap n = n := by rw [IntKind.wrap_u64]; omega
theorem w8 (n : Int) (h0 : 0 <= n) (h1 : n < 256) : IntKind.u8.wrap n = n := by rw [IntKind.wrap_u8]; omega

theorem info5 : (Tryz.prog.info? 5).map (fun i => (i.zero, i.size, i.bytes)) = some (some (.int .u8 0), 1, 1) := by kernel_rfl

/- a row of bytes that the call owns, made a string -/
theorem own_string {base : Nat} {v : Value} {n : Nat} {l : List UInt8} {w : World} (h : w.ownsRow base 5 1 v n (Lib.byteCells l)) (hl : l ≠ []) :
  (convert 124 9 v).run Tryz.prog w = .ok (.string ⟨l.toArray⟩) w := by
 have hcell := fun g (hg : v.ownBlock = some g) => h.cells hg
 obtain ⟨hlen, hv | ⟨g, cap, cur, rfl, _⟩⟩ := h
 ·obtain ⟨_, rfl⟩ := hv
  simp [Lib.byteCells] at hlen
  exact absurd hlen hl
 ·have e : n = l.length := by simpa [Lib.byteCells] using hlen.symm
  subst e
  refine run_convert_bytes_back w 124 9 5 ⟨g, 0, none⟩ cap l Tryz.underlying124 Tryz.underlying5 Tryz.underlying9 ?_
  intro j hj
  exact hcell g rfl j _ (by simp [Lib.byteCells, hj])

theorem byteCells_snoc (l : List UInt8) (b : UInt8) : Lib.byteCells (l ++ [b]) = Lib.byteCells l ++ [.int .u8 (b.toNat : Int)] := by simp [Lib.byteCells]

/- one byte in a block, made a string -/
theorem conv1 (w : World) (b : Nat) (x : Nat) (hx : x < 256) (h : w.cell? ⟨b, 0, none⟩ = some (.int .u8 (x : Int))) :
  (convert 124 9 (.slice (some ⟨b, 0, none⟩) 1 1)).run Tryz.prog w = .ok (.string ⟨#[UInt8.ofNat x]⟩) w := by
 have := run_convert_bytes_back (P := Tryz.prog) w 124 9 5 ⟨b, 0, none⟩ 1 [UInt8.ofNat x] Tryz.underlying124 Tryz.underlying5 Tryz.underlying9 (by
  intro j hj
  simp at hj; subst hj
  simpa [Addr.add, Nat.mod_eq_of_lt hx] using h)
 simpa using this

/- two strings joined -/
theorem add_lists (x y : List UInt8) (h : x.length + y.length <= 9223372036854775807) (w : World) : (Op.stringOp .add ⟨x.toArray⟩ ⟨y.toArray⟩).run Tryz.prog w = .ok (.string ⟨(x ++ y).toArray⟩) w := by
 rw [run_string_add_sum w _ _ (by simpa [ByteArray.size] using h), ByteArray.mk_append_mk]
end Go.Proofs.YthaadiclopoamaaGreatDoor
/- Plain mathematics of ids of sagas: which may be, their path, their order. -/
set_option maxRecDepth 100000
set_option maxHeartbeats 8000000
namespace Go.Proofs.YthaadiclopoamaaGreatDoor.Idn

/- a path of which every organisation is from 0 to 15 and stands once -/
def pathB : List Int -> List Int -> Bool
 | _, [] => true
 | seen, o :: r => decide (0 <= o) && decide (o < 16) && !(seen.contains o) && pathB (seen ++ [o]) r

def stepsB (l : List (Int × Int)) : Bool := l.all fun h => decide (0 <= h.1) && decide (h.1 < 8)

def path (r : Int) (l : List (Int × Int)) : List Int := r :: l.map (·.2)

def mayB (r n : Int) (l : List (Int × Int)) : Bool :=
 decide (1 <= n) && decide (n <= 999999) && decide (l.length <= 4) && stepsB l && pathB [] (path r l)


/- the hops alone, one by one -/
def hopsB (r : Int) : List Int -> List (Int × Int) -> Bool
 | _, [] => true
 | seen, h :: t => decide (0 <= h.1) && decide (h.1 < 8) && decide (0 <= h.2) && decide (h.2 < 16) && !(h.2 == r) && !(seen.contains h.2) && hopsB r (seen ++ [h.2]) t

theorem hops_path (r : Int) (l : List (Int × Int)) : ∀ seen, hopsB r seen l = (stepsB l && pathB (r :: seen) (l.map (·.2))) := by
 induction l with
 | nil => intro seen; rfl
 | cons h t ih =>
  intro seen
  have e1 : stepsB (h :: t) = (decide (0 <= h.1) && decide (h.1 < 8) && stepsB t) := rfl
  have e2 : pathB (r :: seen) ((h :: t).map (·.2)) = (decide (0 <= h.2) && decide (h.2 < 16) && !((r :: seen).contains h.2) && pathB ((r :: seen) ++ [h.2]) (t.map (·.2))) := rfl
  have e3 : (r :: seen).contains h.2 = (h.2 == r || seen.contains h.2) := rfl
  rw [hopsB, ih, e1, e2, e3, List.cons_append]
  generalize decide (0 <= h.1) = a
  generalize decide (h.1 < 8) = b
  generalize decide (0 <= h.2) = c
  generalize decide (h.2 < 16) = d
  generalize (h.2 == r) = e
  generalize seen.contains h.2 = f
  generalize stepsB t = g
  generalize pathB _ _ = k
  revert a b c d e f g k
  decide
theorem may_hops (r n : Int) (l : List (Int × Int)) : mayB r n l = (decide (1 <= n) && decide (n <= 999999) && decide (l.length <= 4) && decide (0 <= r) && decide (r < 16) && hopsB r [] l) := by
 have e2 : pathB [] (path r l) = (decide (0 <= r) && decide (r < 16) && pathB [r] (l.map (·.2))) := by
  show (decide (0 <= r) && decide (r < 16) && !(([] : List Int).contains r) && pathB ([] ++ [r]) (l.map (·.2))) = _
  simp
 rw [mayB, hops_path, e2]
 generalize decide (1 <= n) = a
 generalize decide (n <= 999999) = b
 generalize decide (l.length <= 4) = c
 generalize decide (0 <= r) = d
 generalize decide (r < 16) = e
 generalize stepsB l = g
 generalize pathB _ _ = k
 revert a b c d e g k
 decide
end Go.Proofs.YthaadiclopoamaaGreatDoor.Idn
/- Rows of hops and of integers in memory. -/
set_option maxRecDepth 100000
set_option maxHeartbeats 8000000
namespace Go.Proofs.YthaadiclopoamaaGreatDoor
open Go.RowKit

theorem Gr.grownBy {w w' : World} (h : Gr w w') : w.grownBy w' none := ⟨h.below.os, h.below.tape, h.below.output, h.below.size, fun k hk _ => h.below.block k hk⟩
theorem Gr.keep {W w1 : World} (g : Gr W w1) {p : Addr} {v : Value} (h : W.cell? p = some v) : w1.cell? p = some v :=
 (g.below.cell (World.block_lt_of_cell? W p h)).trans h

/- a row of hops in memory, its address whatever where there is none -/
def HopsAt (w : World) (ad : Option Addr) (L : List (Int × Int)) : Prop :=
 ∀ j (h : j < L.length), ∃ b off, ad = some ⟨b, off, none⟩ /\ b < w.heap.size /\ w.cell? ⟨b, off + j * 2, none⟩ = some (.int .i64 L[j].1) /\ w.cell? ⟨b, off + j * 2 + 1, none⟩ = some (.int .i64 L[j].2)
theorem HopsAt.gr {w w' : World} {ad : Option Addr} {L : List (Int × Int)} (h : HopsAt w ad L) (g : Gr w w') : HopsAt w' ad L := by
 intro j hj
 obtain ⟨b, off, e, hb, hc, hd⟩ := h j hj
 exact ⟨b, off, e, Nat.lt_of_lt_of_le hb g.size, g.keep hc, g.keep hd⟩
theorem HopsAt.nil {w : World} {ad : Option Addr} : HopsAt w ad [] := fun j h => absurd h (by simp)
theorem HopsAt.take {w : World} {ad : Option Addr} {L : List (Int × Int)} (h : HopsAt w ad L) (k : Nat) : HopsAt w ad (L.take k) := by
 intro j hj
 have hj' : j < L.length := by rw [List.length_take] at hj; omega
 obtain ⟨b, off, e, hb, hc, hd⟩ := h j hj'
 exact ⟨b, off, e, hb, by rw [List.getElem_take]; exact hc, by rw [List.getElem_take]; exact hd⟩

/- a row of integers in memory -/
def IntsAt (w : World) (ad : Option Addr) (l : List Int) : Prop :=
 ∀ j (h : j < l.length), ∃ b off, ad = some ⟨b, off, none⟩ /\ b < w.heap.size /\ w.cell? ⟨b, off + j, none⟩ = some (.int .i64 l[j])
theorem IntsAt.gr {w w' : World} {ad : Option Addr} {l : List Int} (h : IntsAt w ad l) (g : Gr w w') : IntsAt w' ad l := by
 intro j hj
 obtain ⟨b, off, e, hb, hc⟩ := h j hj
 exact ⟨b, off, e, Nat.lt_of_lt_of_le hb g.size, g.keep hc⟩
theorem IntsAt.take {w : World} {ad : Option Addr} {l : List Int} (h : IntsAt w ad l) (k : Nat) : IntsAt w ad (l.take k) := by
 intro j hj
 have hj' : j < l.length := by rw [List.length_take] at hj; omega
 obtain ⟨b, off, e, hb, hc⟩ := h j hj'
 exact ⟨b, off, e, hb, by rw [List.getElem_take]; exact hc⟩

def intV (l : List Int) : List Value := l.map fun n => Value.int .i64 n
theorem own_or (v : Value) : v.ownBlock = none ∨ v.ownBlock ≠ none := by
 cases v.ownBlock with
 | none => exact Or.inl rfl
 | some q => exact Or.inr (by simp)
theorem own_ints {base : Nat} {v : Value} {l : List Int} {w : World} (h : w.ownsRow base 3 1 v l.length (intV l)) : ∃ ad cap, v = .slice ad l.length cap /\ l.length <= cap /\ IntsAt w ad l := by
 have hcell := fun g (hg : v.ownBlock = some g) => h.cells hg
 have hlt := h.lt
 obtain ⟨_, ⟨rfl, h0⟩ | ⟨g, cap, cur, rfl, hx⟩⟩ := h
 ·have : l = [] := List.length_eq_zero_iff.1 h0
  subst this
  exact ⟨none, 0, rfl, by simp, fun j hj => absurd hj (by simp)⟩
 ·refine ⟨some ⟨g, 0, none⟩, cap, rfl, hx.2.2.1, ?_⟩
  intro j hj
  refine ⟨g, 0, rfl, (hlt g rfl).2, ?_⟩
  have := hcell g rfl j (.int .i64 l[j]) (by simp [intV, hj])
  rw [Addr.add_lit] at this
  simpa using this
theorem cell_one_at (w : World) (x : Value) (t : TypeId) (n : Nat) (hn : n = w.heap.size) : ∀ j u, [x][j]? = some u -> (w.alloc (.cells #[x] t)).cell? ((⟨n, 0, none⟩ : Addr).add j) = some u := by
 subst hn; exact cell_one_new w x t
theorem own_lit1 (w : World) (base : Nat) (x : Value) (t : TypeId) (g : Nat) (hg : g = w.heap.size) (hb : base <= w.heap.size) : (w.alloc (.cells #[x] t)).ownsRow base t 1 (.slice (some ⟨g, 0, none⟩) 1 1) 1 [x] := by
 subst hg; exact World.ownsRow_lit w #[x] 1 hb (by unfold maxLen; omega) rfl
theorem infoInt : (Tryz.prog.info? 3).map (fun i => (i.zero, i.size, i.bytes)) = some (some (.int .i64 0), 1, 8) := by kernel_rfl
theorem infoHop : (Tryz.prog.info? 85).map (fun i => (i.zero, i.size, i.bytes)) = some (some (.agg #[.int .i64 0, .int .i64 0]), 2, 16) := by kernel_rfl
end Go.Proofs.YthaadiclopoamaaGreatDoor
/- pathOf: the path of an id. -/
set_option maxRecDepth 100000
set_option maxHeartbeats 8000000
namespace Go.Proofs.YthaadiclopoamaaGreatDoor
open Go.RowKit

theorem path_more (r : Int) (L : List (Int × Int)) (k : Nat) (h : k < L.length) : Idn.path r (L.take (k + 1)) = Idn.path r (L.take k) ++ [L[k].2] := by
 unfold Idn.path; rw [List.take_succ_eq_append_getElem h, List.map_append]; rfl
theorem path_len (r : Int) (L : List (Int × Int)) : (Idn.path r L).length = L.length + 1 := by simp [Idn.path]

theorem pathOf_any (r n : Int) (L : List (Int × Int)) (ad : Option Addr) (cap : Nat) (w : World) (hL : HopsAt w ad L) (hn : L.length <= 1000) :
  Calls Tryz.prog 81 #[.agg #[.int .i64 r, .int .i64 n, .slice ad L.length cap]] w fun e w' =>
   ∃ ad2 cap2, e = .returned (.slice ad2 (L.length + 1) cap2) /\ L.length + 1 <= cap2 /\ IntsAt w' ad2 (Idn.path r L) /\ Gr w w' := by
 obtain ⟨i0, hi, hz0, hz1, hz2⟩ := info_parts infoInt
 have HL : Hid (HopsAt w ad L) := hL
 clear hL
 go_enter Tryz.func81, Tryz.ntmps81
 go_wp2
 go_loopw [3, 12] (fun p i wr => ∃ k : Nat, k <= L.length /\ i = .int .i64 k /\ wr.ownsRow w.heap.size 3 1 p (k + 1) (intV (Idn.path r (L.take k))) /\ Below w.heap.size w wr)
  (fun _ i _ => L.length - (intOf i).toNat)
 case atStart => exact ⟨0, by omega, rfl, own_lit1 _ _ _ _ _ (by simp) (by simp), ((Below.refl _ _).alloc (Nat.le_refl _) _).alloc (by simp) _⟩
 case round =>
  obtain ⟨k, hk, rfl, hown, hb⟩ := hrel
  have hbs := hb.size
  by_cases hlt : k < L.length
  ·obtain ⟨b, off, rfl, hbl, hc, hd⟩ := HL.out k hlt
   have hc' := (hb.cell (p := ⟨b, off + k * 2, none⟩) hbl).trans hc
   have hd' := (hb.cell (p := ⟨b, off + k * 2 + 1, none⟩) hbl).trans hd
   have HP : Hid (intV (Idn.path r (L.take (k + 1))) = intV (Idn.path r (L.take k)) ++ [.int .i64 L[k].2]) := by
    show _ = _
    rw [path_more r L k hlt]; simp [intV]
   have hm1 : k + 1 + 1 <= maxLen := by unfold maxLen; omega
   obtain ⟨⟨h1, h2⟩, hh⟩ : ∃ h, L[k] = h := ⟨_, rfl⟩
   rw [hh] at hc' hd' HP
   clear hc hd hh
   go_wp2_with (first
    | (at_builtin; refine wpList_append_own _ rfl _ _ 119 rfl w.heap.size 3 i0 (.int .i64 0) 1 8 Tryz.underlying119 hi hz0 hz1 hz2 rfl (by decide) _ _ _ rfl ((hown.alloc _).alloc _) ⟨wr.heap.size + 1, 0, none⟩ 1 1 [.int .i64 h2] rfl rfl (cell_one_at _ _ _ _ (by simp)) (by intro u hu; simp at hu; subst hu; rfl) hm1 (by omega) (by simp; omega) ?_)
    | fail)
   intro v' w1 hown' hgrow _
   go_wp2
   go_roundw
   case rel =>
    exact ⟨k + 1, by omega, by go_num, by rw [HP.out]; exact hown', ((hb.alloc hbs _).alloc (by simp; omega) _).grown hgrow (by simp; omega) (fun k hk => (hown.lt k hk).1)⟩
   case measure => simp [intOf]; omega
  ·have hkl : k = L.length := by omega
   subst hkl
   have key : ∀ {u : Value}, wr.ownsRow w.heap.size 3 1 u (L.length + 1) (intV (Idn.path r (L.take L.length))) -> ∃ ad2 cap2, u = .slice ad2 (L.length + 1) cap2 /\ L.length + 1 <= cap2 /\ IntsAt wr ad2 (Idn.path r L) := by
    intro u h
    rw [List.take_length] at h
    have := own_ints (l := Idn.path r L) (by rw [path_len]; exact h)
    rw [path_len] at this
    exact this
   obtain ⟨ad2, cap2, rfl, hcp, hia⟩ := key hown
   have HI : Hid (IntsAt wr ad2 (Idn.path r L)) := hia
   clear hown key hia
   go_wp2
   go_ret
   exact ⟨ad2, cap2, rfl, hcp, HI.out, ⟨hb⟩⟩
end Go.Proofs.YthaadiclopoamaaGreatDoor
/- checkPath and Check: may an id be? -/
set_option maxRecDepth 100000
set_option maxHeartbeats 8000000
namespace Go.Proofs.YthaadiclopoamaaGreatDoor
open Go.RowKit

def errB (b : Bool) : Int := if b = true then 0 else 30

theorem checkPath_any (l : List Int) (ad : Option Addr) (cap : Nat) (w : World) (hL : IntsAt w ad l) (hn : l.length <= 1001) (hcap : l.length <= cap) :
  Calls Tryz.prog 80 #[.slice ad l.length cap] w fun e w' => e = .returned (.int .i64 (errB (Idn.pathB [] l))) /\ w' = w := by
 have HL : Hid (IntsAt w ad l) := hL
 clear hL
 go_enter Tryz.func80, Tryz.ntmps80
 go_wp2
 go_loop [7] (fun i => ∃ k : Nat, k <= l.length /\ i = .int .i64 k /\ Idn.pathB [] l = Idn.pathB (l.take k) (l.drop k)) (fun i => l.length - (intOf i).toNat)
 case atStart => exact ⟨0, by omega, rfl, by simp⟩
 case round =>
  obtain ⟨k, hk, rfl, hp⟩ := hrel
  have HP : Hid (Idn.pathB [] l = Idn.pathB (l.take k) (l.drop k)) := hp
  clear hp
  by_cases hlt : k < l.length
  ·obtain ⟨b, off, rfl, hbl, hc⟩ := HL.out k hlt
   have HP2 : Hid (Idn.pathB [] l = (decide (0 <= l[k]) && decide (l[k] < 16) && !((l.take k).contains l[k]) && Idn.pathB (l.take (k + 1)) (l.drop (k + 1)))) := by
    show _ = _
    rw [HP.out, List.drop_eq_getElem_cons hlt, Idn.pathB, List.take_succ_eq_append_getElem hlt]
   have hall : ∀ j, j < l.length -> w.cell? ⟨b, off + j, none⟩ = some (.int .i64 (l.getD j 0)) := by
    intro j hj
    obtain ⟨b', off', e, _, h⟩ := HL.out j hj
    simp at e
    obtain ⟨rfl, rfl⟩ := e
    rw [h, List.getD_eq_getElem?_getD, List.getElem?_eq_getElem hj]; rfl
   have HC : Hid (Calls Tryz.prog 101 #[.slice (some ⟨b, off, none⟩) k cap, .int .i64 l[k]] w fun e w' => e = .returned (.bool ((l.take k).contains l[k])) /\ w' = w) := Tryz.slices_Contains_int b off k cap l l[k] w (by omega) (by omega) hall
   generalize (l.take k).contains l[k] = ct at HC HP2
   generalize l[k] = o at *
   clear hall
   by_cases h0 : 0 <= o
   ·by_cases h1 : o < 16
    ·cases ct with
     | true =>
      go_wp2_with fail
      refine HC.out.mono ?_
      rintro e1 w1 ⟨rfl, hw1⟩; obtain rfl := hw1.symm
      go_wp2
      go_ret
      exact ⟨by rw [HP2.out]; simp [errB], rfl⟩
     | false =>
      go_wp2_with fail
      refine HC.out.mono ?_
      rintro e1 w1 ⟨rfl, hw1⟩; obtain rfl := hw1.symm
      go_wp2
      go_round
      case rel => exact ⟨k + 1, by omega, by go_num, by rw [HP2.out]; simp [h0, h1]⟩
      case measure => simp [intOf]; omega
    ·have HF : Hid (Idn.pathB [] l = false) := by show _ = _; rw [HP2.out]; simp [h1]
     go_wp2
     go_ret
     exact ⟨by rw [HF.out]; rfl, rfl⟩
   ·have HF : Hid (Idn.pathB [] l = false) := by show _ = _; rw [HP2.out]; simp [h0]
    go_wp2
    go_ret
    exact ⟨by rw [HF.out]; rfl, rfl⟩
  ·go_wp2
   go_ret
   exact ⟨by rw [HP.out, List.drop_eq_nil_of_le (by omega)]; rfl, rfl⟩

theorem check_any (r n : Int) (L : List (Int × Int)) (ad : Option Addr) (cap : Nat) (w : World) (hL : HopsAt w ad L) (hn : L.length <= 9223372036854775807) :
  Calls Tryz.prog 53 #[.agg #[.int .i64 r, .int .i64 n, .slice ad L.length cap]] w fun e w' => e = .returned (.int .i64 (errB (Idn.mayB r n L))) /\ Gr w w' := by
 by_cases h1 : 1 <= n
 ·by_cases h2 : n <= 999999
  ·by_cases h3 : L.length <= 4
   ·have HM : Hid (Idn.mayB r n L = (Idn.stepsB L && Idn.pathB [] (Idn.path r L))) := by
     show _ = _
     simp [Idn.mayB, h1, h2, h3]
    have HL : Hid (HopsAt w ad L) := hL
    have HO : Hid (∀ w', Gr w w' -> Calls Tryz.prog 81 #[.agg #[.int .i64 r, .int .i64 n, .slice ad L.length cap]] w' fun e w2 => ∃ ad2 cap2, e = .returned (.slice ad2 (L.length + 1) cap2) /\ L.length + 1 <= cap2 /\ IntsAt w2 ad2 (Idn.path r L) /\ Gr w' w2) := fun w' g => pathOf_any r n L ad cap w' (hL.gr g) (by omega)
    clear hL
    go_enter Tryz.func53, Tryz.ntmps53
    go_wp2
    go_loopw [22] (fun i wr => ∃ k : Nat, k <= L.length /\ i = .int .i64 k /\ Idn.stepsB L = Idn.stepsB (L.drop k) /\ Below (w.heap.size + 1) (w.alloc (.cells #[.int .i64 r, .int .i64 n, .slice ad L.length cap] 24)) wr) (fun i _ => L.length - (intOf i).toNat)
    case atStart => exact ⟨0, by omega, rfl, rfl, Below.refl _ _⟩
    case round =>
     obtain ⟨k, hk, rfl, hs, hb⟩ := hrel
     have hbs : w.heap.size + 1 <= wr.heap.size := by have := hb.size; simpa using this
     have HS : Hid (Idn.stepsB L = Idn.stepsB (L.drop k)) := hs
     have hgr : Gr w wr := ⟨((Below.refl _ _).alloc (Nat.le_refl _) _).trans (hb.mono (by omega))⟩
     have q0 : wr.cell? ⟨w.heap.size, 0, none⟩ = some (.int .i64 r) := (hb.cell (p := ⟨w.heap.size, 0, none⟩) (by simp)).trans (by simp)
     have q1 : wr.cell? ⟨w.heap.size, 1, none⟩ = some (.int .i64 n) := (hb.cell (p := ⟨w.heap.size, 1, none⟩) (by simp)).trans (by simp)
     have q2 : wr.cell? ⟨w.heap.size, 2, none⟩ = some (.slice ad L.length cap) := (hb.cell (p := ⟨w.heap.size, 2, none⟩) (by simp)).trans (by simp)
     clear hs
     by_cases hlt : k < L.length
     ·obtain ⟨b, off, rfl, hbl, hc, hd⟩ := HL.out k hlt
      have hc' := hgr.keep hc
      have hd' := hgr.keep hd
      have HS2 : Hid (Idn.stepsB L = (decide (0 <= L[k].1) && decide (L[k].1 < 8) && Idn.stepsB (L.drop (k + 1)))) := by
       show _ = _
       rw [HS.out, List.drop_eq_getElem_cons hlt]; rfl
      obtain ⟨⟨p1, p2⟩, hh⟩ : ∃ h, L[k] = h := ⟨_, rfl⟩
      rw [hh] at hc' hd' HS2
      clear hc hd hh HL
      by_cases g0 : 0 <= p1
      ·by_cases g1 : p1 < 8
       ·go_wp2
        go_roundw
        case rel => exact ⟨k + 1, by omega, by go_num, by rw [HS2.out]; simp [g0, g1], hb.alloc hbs _⟩
        case measure => simp [intOf]; omega
       ·have HF : Hid (Idn.mayB r n L = false) := by show _ = _; rw [HM.out, HS2.out]; simp [g1]
        go_wp2
        go_ret
        exact ⟨by rw [HF.out]; rfl, ⟨hgr.below.alloc hgr.size _⟩⟩
      ·have HF : Hid (Idn.mayB r n L = false) := by show _ = _; rw [HM.out, HS2.out]; simp [g0]
       go_wp2
       go_ret
       exact ⟨by rw [HF.out]; rfl, ⟨hgr.below.alloc hgr.size _⟩⟩
     ·have HM2 : Hid (Idn.mayB r n L = Idn.pathB [] (Idn.path r L)) := by
       show _ = _
       rw [HM.out, HS.out, List.drop_eq_nil_of_le (by omega)]; simp [Idn.stepsB]
      have HC : Hid (∀ (w' : World) (ad2 : Option Addr) (cap2 : Nat), IntsAt w' ad2 (Idn.path r L) -> L.length + 1 <= cap2 -> Calls Tryz.prog 80 #[.slice ad2 (L.length + 1) cap2] w' fun e w2 => e = .returned (.int .i64 (errB (Idn.pathB [] (Idn.path r L)))) /\ w2 = w') := by
       intro w' ad2 cap2 hi hc
       have := checkPath_any (Idn.path r L) ad2 cap2 w' hi (by rw [path_len]; omega) (by rw [path_len]; exact hc)
       rw [path_len] at this
       exact this
      go_wp2_with fail
      refine (HO.out _ hgr).mono ?_
      rintro e1 w1 ⟨ad2, cap2, rfl, hcp, hia, hg1⟩
      go_wp2_with fail
      refine (HC.out _ _ _ hia hcp).mono ?_
      rintro e2 w2 ⟨rfl, hw2⟩; obtain rfl := hw2.symm
      go_wp2
      go_ret
      exact ⟨by rw [HM2.out]; rfl, hgr.trans hg1⟩
   ·have h3' : ((4 : Int) < L.length) := by omega
    have HM : Hid (Idn.mayB r n L = false) := by show _ = _; simp [Idn.mayB, h3]
    go_enter Tryz.func53, Tryz.ntmps53
    go_wp2
    go_ret
    exact ⟨by rw [HM.out]; rfl, ⟨(Below.refl _ _).alloc (Nat.le_refl _) _⟩⟩
  ·have HM : Hid (Idn.mayB r n L = false) := by show _ = _; simp [Idn.mayB, h2]
   go_enter Tryz.func53, Tryz.ntmps53
   go_wp2
   go_ret
   exact ⟨by rw [HM.out]; rfl, ⟨(Below.refl _ _).alloc (Nat.le_refl _) _⟩⟩
 ·have HM : Hid (Idn.mayB r n L = false) := by show _ = _; simp [Idn.mayB, h1]
  go_enter Tryz.func53, Tryz.ntmps53
  go_wp2
  go_ret
  exact ⟨by rw [HM.out]; rfl, ⟨(Below.refl _ _).alloc (Nat.le_refl _) _⟩⟩
end Go.Proofs.YthaadiclopoamaaGreatDoor
/- slices.Clone and slices.Grow, slices.Concat of hops. -/
set_option maxRecDepth 100000
set_option maxHeartbeats 8000000
namespace Go.Proofs.YthaadiclopoamaaGreatDoor
open Go.RowKit

def hopV (L : List (Int × Int)) : List Value := L.flatMap fun h => [.int .i64 h.1, .int .i64 h.2]
theorem hopV_len (L : List (Int × Int)) : (hopV L).length = L.length * 2 := by
 induction L with
 | nil => rfl
 | cons h t ih => simp [hopV] at ih ⊢; omega
theorem hopV_app (L M : List (Int × Int)) : hopV (L ++ M) = hopV L ++ hopV M := by simp [hopV]
theorem hopV_get (L : List (Int × Int)) : ∀ j (h : j < L.length), (hopV L)[j * 2]? = some (.int .i64 L[j].1) /\ (hopV L)[j * 2 + 1]? = some (.int .i64 L[j].2) := by
 induction L with
 | nil => intro j h; simp at h
 | cons x t ih =>
  intro j h
  have e : hopV (x :: t) = .int .i64 x.1 :: .int .i64 x.2 :: hopV t := rfl
  rw [e]
  cases j with
  | zero => exact ⟨rfl, rfl⟩
  | succ j =>
   obtain ⟨h1, h2⟩ := ih j (by simpa using h)
   refine ⟨?_, ?_⟩
   ·have : (j + 1) * 2 = j * 2 + 1 + 1 := by omega
    rw [this]; simpa using h1
   ·have : (j + 1) * 2 + 1 = j * 2 + 1 + 1 + 1 := by omega
    rw [this]; simpa using h2
theorem hopV_one (L : List (Int × Int)) : ∀ u ∈ hopV L, u.oneCell' = true := by
 intro u hu
 simp only [hopV, List.mem_flatMap] at hu
 obtain ⟨h, _, hu⟩ := hu
 simp at hu
 rcases hu with rfl | rfl <;> rfl
/- what hops in memory are, cell by cell -/
theorem HopsAt.news {w : World} {b off : Nat} {L : List (Int × Int)} (h : HopsAt w (some ⟨b, off, none⟩) L) : ∀ j u, (hopV L)[j]? = some u -> w.cell? ((⟨b, off, none⟩ : Addr).add j) = some u := by
 intro j u hu
 have hj : j < L.length * 2 := by
  rw [<- hopV_len]
  exact (List.getElem?_eq_some_iff.1 hu).1
 have hj2 : j / 2 < L.length := by omega
 obtain ⟨b', off', e, _, h1, h2⟩ := h (j / 2) hj2
 simp at e
 obtain ⟨rfl, rfl⟩ := e
 obtain ⟨g1, g2⟩ := hopV_get L (j / 2) hj2
 rw [Addr.add_lit]
 rcases Nat.mod_two_eq_zero_or_one j with hm | hm
 ·have e : j = j / 2 * 2 := by omega
  rw [e] at hu ⊢
  rw [g1] at hu
  rw [<- hu]; exact h1
 ·have e : j = j / 2 * 2 + 1 := by omega
  rw [e] at hu ⊢
  rw [g2] at hu
  rw [<- hu, <- Nat.add_assoc]; exact h2
/- a row of hops that the call owns -/
theorem own_hops {base : Nat} {v : Value} {L : List (Int × Int)} {w : World} (h : w.ownsRow base 85 2 v L.length (hopV L)) : ∃ ad cap, v = .slice ad L.length cap /\ L.length <= cap /\ HopsAt w ad L /\ ∀ a, ad = some a -> base <= a.block := by
 have hcell := fun g (hg : v.ownBlock = some g) => h.cells hg
 have hlt := h.lt
 obtain ⟨_, ⟨rfl, h0⟩ | ⟨g, cap, cur, rfl, hx⟩⟩ := h
 ·have : L = [] := List.length_eq_zero_iff.1 h0
  subst this
  exact ⟨none, 0, rfl, by simp, HopsAt.nil, fun a e => by cases e⟩
 ·refine ⟨some ⟨g, 0, none⟩, cap, rfl, hx.2.2.1, ?_, fun a e => by cases e; exact (hlt g rfl).1⟩
  intro j hj
  obtain ⟨g1, g2⟩ := hopV_get L j hj
  have c1 := hcell g rfl _ _ g1
  have c2 := hcell g rfl _ _ g2
  rw [Addr.add_lit] at c1 c2
  exact ⟨g, 0, rfl, (hlt g rfl).2, c1, by rw [<- Nat.add_assoc] at c2; exact c2⟩
theorem HopsAt.alloc {w : World} {ad : Option Addr} {L : List (Int × Int)} {ob : Obj} (h : HopsAt w ad L) : HopsAt (w.alloc ob) ad L := h.gr (Gr.refl _).alloc
theorem HopsAt.drew {w : World} {ad : Option Addr} {L : List (Int × Int)} (h : HopsAt w ad L) : HopsAt w.drew ad L := h.gr (Gr.refl _).drew
theorem HopsAt.set {w : World} {ad : Option Addr} {L : List (Int × Int)} (h : HopsAt w ad L) (p : Addr) (v : Value) (hp : ∀ a, ad = some a -> p.block ≠ a.block) : HopsAt (w.setCell p v) ad L := by
 intro j hj
 obtain ⟨b, off, e, hb, h1, h2⟩ := h j hj
 have hne : p.block ≠ b := hp _ e
 refine ⟨b, off, e, by simpa using hb, ?_, ?_⟩
 ·rw [World.cell?_setCell_far _ _ _ _ (by simpa using hne)]; exact h1
 ·rw [World.cell?_setCell_far _ _ _ _ (by simpa using hne)]; exact h2
end Go.Proofs.YthaadiclopoamaaGreatDoor
/- Parent: the id without its last hop, that hop's Step. -/
set_option maxRecDepth 100000
set_option maxHeartbeats 8000000
namespace Go.Proofs.YthaadiclopoamaaGreatDoor
open Go.RowKit

theorem Gr.set {a b : World} (h : Gr a b) (p : Addr) (hp : a.heap.size <= p.block) (v : Value) : Gr a (b.setCell p v) := ⟨h.below.setCell hp v⟩

/- a struct of three cells in memory that may be written -/
structure BoxAt (w : World) (g : Nat) (a b c : Value) : Prop where
 c0 : w.cell? ⟨g, 0, none⟩ = some a
 c1 : w.cell? ⟨g, 1, none⟩ = some b
 c2 : w.cell? ⟨g, 2, none⟩ = some c
 f0 : w.frozen? ⟨g, 0, none⟩ = false
 f1 : w.frozen? ⟨g, 1, none⟩ = false
 f2 : w.frozen? ⟨g, 2, none⟩ = false
 lt : g < w.heap.size
theorem Gr.keepF {W w1 : World} (g : Gr W w1) {p : Addr} (hb : p.block < W.heap.size) (h : W.frozen? p = false) : w1.frozen? p = false := (g.below.frozen hb).trans h
theorem BoxAt.gr {w w' : World} {g : Nat} {a b c : Value} (h : BoxAt w g a b c) (k : Gr w w') : BoxAt w' g a b c :=
 ⟨k.keep h.c0, k.keep h.c1, k.keep h.c2, k.keepF h.lt h.f0, k.keepF h.lt h.f1, k.keepF h.lt h.f2, Nat.lt_of_lt_of_le h.lt k.size⟩
theorem BoxAt.new (w : World) (a b c : Value) (t : TypeId) (g : Nat) (hg : g = w.heap.size) : BoxAt (w.alloc (.cells #[a, b, c] t)) g a b c := by
 subst hg
 exact ⟨by simp, by simp, by simp, by simp [go_sem], by simp [go_sem], by simp [go_sem], by simp⟩

end Go.Proofs.YthaadiclopoamaaGreatDoor
/- Rows of amounts in memory. -/
set_option maxRecDepth 100000
set_option maxHeartbeats 8000000
namespace Go.Proofs.YthaadiclopoamaaGreatDoor
open Go.RowKit

/- a row of integers in memory, its address whatever where there is none -/
theorem IntsAt.drop {w : World} {b off : Nat} {l : List Int} (h : IntsAt w (some ⟨b, off, none⟩) l) (k : Nat) : IntsAt w (some ⟨b, off + k, none⟩) (l.drop k) := by
 intro j hj
 rw [List.length_drop] at hj
 obtain ⟨b', off', e, hb, hc⟩ := h (k + j) (by omega)
 cases e
 exact ⟨b, off + k, rfl, hb, by rw [List.getElem_drop, Nat.add_assoc]; exact hc⟩
theorem IntsAt.nil {w : World} {ad : Option Addr} : IntsAt w ad [] := fun j h => absurd h (by simp)
end Go.Proofs.YthaadiclopoamaaGreatDoor
/- Structs of three cells in memory. -/
set_option maxRecDepth 100000
set_option maxHeartbeats 8000000
namespace Go.Proofs.YthaadiclopoamaaGreatDoor
open Go.RowKit

/- a struct of three cells in memory that may be written -/
/- a struct of three cells that may be written, whatever it holds -/
def RoomAt (w : World) (g : Nat) : Prop := ∃ a b c, BoxAt w g a b c
theorem RoomAt.gr {w w' : World} {g : Nat} (h : RoomAt w g) (k : Gr w w') : RoomAt w' g := by
 obtain ⟨a, b, c, h⟩ := h
 exact ⟨a, b, c, h.gr k⟩
theorem RoomAt.drew {w : World} {g : Nat} (h : RoomAt w g) : RoomAt w.drew g := h.gr (Gr.refl _).drew
theorem RoomAt.new (w : World) (a b c : Value) (t : TypeId) (g : Nat) (hg : g = w.heap.size) : RoomAt (w.alloc (.cells #[a, b, c] t)) g := ⟨a, b, c, BoxAt.new w a b c t g hg⟩
end Go.Proofs.YthaadiclopoamaaGreatDoor
/- Plain mathematics of amounts: sums and products, held in two halves of 64 bits, or of 32. -/
set_option maxRecDepth 100000
set_option maxHeartbeats 8000000
namespace Go.Proofs.YthaadiclopoamaaGreatDoor.Csh

def okB (s : Int) : Bool := decide (-9223372036854775808 <= s) && decide (s <= 9223372036854775807)
def valE (s : Int) : Int := if okB s = true then s else 0
def sgn (n : Int) : Int := (n + 9223372036854775808) % 18446744073709551616 - 9223372036854775808

/- the document's product -/
/- the document's sum, in halves of 32 bits -/
end Go.Proofs.YthaadiclopoamaaGreatDoor.Csh
