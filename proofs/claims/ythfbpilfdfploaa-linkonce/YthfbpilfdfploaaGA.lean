/- Parts of these proofs, laid together. -/
import Derived.Test.YthfbpilfdfploaaProg
import Derived.WalkKit
import Derived.WalkSpells
import Derived.WalkLawsBesides
import Derived.Laws.IdiomStrings
import Derived.Lib.UnsafeStr
import Derived.KernelRfl
import Derived.Deep.RegionWith
import Derived.Deep.DrawnRows
import Init.Data.List
import Derived.Laws.OwnMore
import Derived.Maps.AppendAt
import Derived.Test.YthfbpilfdfploaaShelf
import Derived.Deep.RegionHeld3
import Derived.Lib.AppendZeros
import Derived.Laws.AppendOwnNone
import Derived.BigRegion
namespace Pk

def numF : Nat → Nat → List UInt8
  | 0, n => [UInt8.ofNat n]
  | f + 1, n => if n < 128 then [UInt8.ofNat n] else UInt8.ofNat (n % 128 + 128) :: numF f (n / 128)
def num (n : Nat) : List UInt8 := numF 9 n

theorem numF_lt (f n : Nat) (h : n < 128) : numF f n = [UInt8.ofNat n] := by
  cases f with
  | zero => rfl
  | succ f => simp [numF, h]
theorem numF_ge (f n : Nat) (h : ¬ n < 128) : numF (f + 1) n = UInt8.ofNat (n % 128 + 128) :: numF f (n / 128) := by
  simp [numF, h]
theorem numF_len (f n : Nat) : 1 ≤ (numF f n).length ∧ (numF f n).length ≤ f + 1 := by
  induction f generalizing n with
  | zero => simp [numF]
  | succ f ih =>
    by_cases h : n < 128
    · simp [numF, h]
    · have := ih (n / 128)
      simp [numF, h]; omega
theorem num_len (n : Nat) : 1 ≤ (num n).length ∧ (num n).length ≤ 10 := numF_len 9 n
/- the fuel is of no matter where it suffices -/
theorem numF_fuel (f g n : Nat) (hf : n < 128 ^ (f + 1)) (hg : n < 128 ^ (g + 1)) : numF f n = numF g n := by
  induction f generalizing g n with
  | zero => rw [numF_lt 0 n (by simpa using hf), numF_lt g n (by simpa using hf)]
  | succ f ih =>
    by_cases h : n < 128
    · rw [numF_lt _ n h, numF_lt _ n h]
    · cases g with
      | zero => simp at hg; omega
      | succ g =>
        rw [numF_ge f n h, numF_ge g n h, ih g (n / 128)]
        · rw [Nat.pow_succ] at hf; omega
        · rw [Nat.pow_succ] at hg; omega

/- a number that may be below 0, as one that is not -/
def sgn (m : Int) : Nat := if 0 ≤ m then 2 * m.toNat else 2 * (-(m + 1)).toNat + 1
theorem sgn_lt (m : Int) (h0 : -9223372036854775808 ≤ m) (h1 : m < 9223372036854775808) : sgn m < 18446744073709551616 := by
  unfold sgn; split <;> omega
theorem sgn_pos (m : Int) (h : 0 ≤ m) : (sgn m : Int) = m * 2 := by unfold sgn; rw [if_pos h]; omega
theorem sgn_neg (m : Int) (h : ¬ 0 ≤ m) : (sgn m : Int) = -(m + 1) * 2 + 1 := by unfold sgn; rw [if_neg h]; omega

/- taking a number: its value, how many bytes it is, the error -/
def takeF : Nat → Nat → Nat → List UInt8 → Nat × Nat × Nat
  | 0, _, _, _ => (0, 0, 11)
  | _ + 1, _, _, [] => (0, 0, 10)
  | f + 1, i, a, b :: r =>
    if 128 ≤ b.toNat then takeF f (i + 1) (a + b.toNat % 128 * 128 ^ i) r
    else if (i = 9 ∧ 1 < b.toNat) ∨ (i ≠ 0 ∧ b.toNat = 0) then (0, 0, 11)
    else (a + b.toNat * 128 ^ i, i + 1, 0)
def take (l : List UInt8) : Nat × Nat × Nat := takeF 10 0 0 l
def takeNum (s : List UInt8) (p : Int) : Nat × Nat × Nat :=
  if 0 ≤ p ∧ p ≤ s.length then ((take (s.drop p.toNat)).1, if (take (s.drop p.toNat)).2.2 = 0 then p.toNat + (take (s.drop p.toNat)).2.1 else 0, (take (s.drop p.toNat)).2.2) else (0, 0, 2)

theorem takeF_spec (f : Nat) : ∀ (i a : Nat) (l : List UInt8), f + i = 10 → a < 128 ^ i →
    ((takeF f i a l).2.2 = 0 ∧ (takeF f i a l).1 < 18446744073709551616 ∧ i + 1 ≤ (takeF f i a l).2.1 ∧ (takeF f i a l).2.1 ≤ i + l.length) ∨
    takeF f i a l = (0, 0, 10) ∨ takeF f i a l = (0, 0, 11) := by
  induction f with
  | zero => intro i a l _ _; right; right; simp [takeF]
  | succ f ih =>
    intro i a l hi ha
    cases l with
    | nil => right; left; simp [takeF]
    | cons b r =>
      have hb : b.toNat < 256 := b.toNat_lt
      rw [takeF]
      split
      · rename_i hge
        have hm : b.toNat % 128 ≤ 127 := by omega
        have := ih (i + 1) (a + b.toNat % 128 * 128 ^ i) r (by omega) (by
          have := Nat.mul_le_mul_right (128 ^ i) hm
          rw [Nat.pow_succ]; omega)
        rcases this with ⟨h1, h2, h3, h4⟩ | h | h
        · left; refine ⟨h1, h2, by omega, ?_⟩; simp; omega
        · right; left; exact h
        · right; right; exact h
      · split
        · right; right; rfl
        · rename_i hlt hl
          left
          refine ⟨rfl, ?_, Nat.le_refl _, by simp⟩
          by_cases h9 : i = 9
          · subst h9
            have hb1 : b.toNat ≤ 1 := by omega
            have := Nat.mul_le_mul_right (128 ^ 9) hb1
            simp only at *
            omega
          · have hb1 : b.toNat ≤ 127 := by omega
            have h1 := Nat.mul_le_mul_right (128 ^ i) hb1
            have h2 : 128 ^ (i + 1) ≤ 128 ^ 9 := Nat.pow_le_pow_right (by omega) (by omega)
            rw [Nat.pow_succ] at h2
            simp only at *
            omega
theorem take_spec (l : List UInt8) :
    ((take l).2.2 = 0 ∧ (take l).1 < 18446744073709551616 ∧ 1 ≤ (take l).2.1 ∧ (take l).2.1 ≤ l.length) ∨ take l = (0, 0, 10) ∨ take l = (0, 0, 11) := by
  have := takeF_spec 10 0 0 l rfl (by simp)
  simpa [take] using this
theorem takeNum_spec (s : List UInt8) (p : Int) :
    ((takeNum s p).2.2 = 0 ∧ (takeNum s p).1 < 18446744073709551616 ∧ 0 ≤ p ∧ p < (takeNum s p).2.1 ∧ (takeNum s p).2.1 ≤ s.length) ∨
    takeNum s p = (0, 0, 2) ∨ takeNum s p = (0, 0, 10) ∨ takeNum s p = (0, 0, 11) := by
  unfold takeNum
  by_cases hp : 0 ≤ p ∧ p ≤ s.length
  · rw [if_pos hp]
    rcases take_spec (s.drop p.toNat) with ⟨h1, h2, h3, h4⟩ | h | h
    · left
      rw [List.length_drop] at h4
      simp only [h1, if_true]
      refine ⟨trivial, h2, hp.1, ?_, ?_⟩ <;> omega
    · right; right; left; rw [h]; simp
    · right; right; right; rw [h]; simp
  · rw [if_neg hp]; right; left; rfl
def unsg (n : Nat) : Int := if n % 2 = 0 then ((n / 2 : Nat) : Int) else -((n / 2 : Nat) : Int) - 1

/- texts, one behind the other, each behind its length -/
def text (s : List UInt8) : List UInt8 := num s.length ++ s
def body (l : List ByteArray) : List UInt8 := l.flatMap fun s => text s.data.toList
def texts (l : List ByteArray) : List UInt8 := num l.length ++ body l
theorem body_snoc (l : List ByteArray) (s : ByteArray) : body (l ++ [s]) = body l ++ text s.data.toList := by simp [body]
theorem body_take_le (l : List ByteArray) (k : Nat) : (body (l.take k)).length ≤ (body l).length := by
  have : body l = body (l.take k) ++ body (l.drop k) := by
    have e : body (l.take k ++ l.drop k) = body (l.take k) ++ body (l.drop k) := by simp only [body, List.flatMap_append]
    rwa [List.take_append_drop] at e
  rw [this]; simp

end Pk
namespace Go.Proofs.Ythfbpilfdfploaa
open Go.RowKit

structure Gr (w w' : World) : Prop where
  below : Below w.heap.size w w'
theorem Gr.refl (w : World) : Gr w w := ⟨Below.refl _ _⟩
theorem Gr.trans {a b c : World} (h : Gr a b) (k : Gr b c) : Gr a c := ⟨h.below.trans (k.below.mono h.below.size)⟩
theorem Gr.alloc {a b : World} (h : Gr a b) {o : Obj} : Gr a (b.alloc o) := ⟨h.below.alloc h.below.size _⟩
theorem Gr.drew {a b : World} (h : Gr a b) : Gr a b.drew := ⟨h.below.drew⟩
theorem Gr.r (w : World) : Gr w w := Gr.refl w
theorem Gr.a {a b : World} (h : Gr a b) {o : Obj} : Gr a (b.alloc o) := h.alloc
theorem Gr.d {a b : World} (h : Gr a b) : Gr a b.drew := h.drew
theorem Gr.t {a b c : World} (h : Gr a b) (k : Gr b c) : Gr a c := h.trans k
theorem Gr.size {a b : World} (h : Gr a b) : a.heap.size ≤ b.heap.size := h.below.size
theorem Gr.cells {W w1 : World} (h : Gr W w1) : (∀ b o, b < W.heap.size → w1.cell? ⟨b, o, none⟩ = W.cell? ⟨b, o, none⟩) ∧ (∀ b o, b < W.heap.size → w1.frozen? ⟨b, o, none⟩ = W.frozen? ⟨b, o, none⟩) :=
  ⟨fun b o hb => h.below.cell (p := ⟨b, o, none⟩) hb, fun b o hb => h.below.frozen (p := ⟨b, o, none⟩) hb⟩
theorem Gr.of {w w' : World} (h : Below w.heap.size w w') : Gr w w' := ⟨h⟩

theorem w64 (n : Int) (h0 : 0 ≤ n) (h1 : n < 18446744073709551616) : IntKind.u64.wrap n = n := by rw [IntKind.wrap_u64]; omega
theorem w8 (n : Int) (h0 : 0 ≤ n) (h1 : n < 256) : IntKind.u8.wrap n = n := by rw [IntKind.wrap_u8]; omega

theorem info5 : (Try.prog.info? 5).map (fun i => (i.zero, i.size, i.bytes)) = some (some (.int .u8 0), 1, 1) := by kernel_rfl

/- a row of bytes that the call owns, made a string -/
theorem own_string {base : Nat} {v : Value} {n : Nat} {l : List UInt8} {w : World} (h : w.ownsRow base 5 1 v n (Lib.byteCells l)) (hl : l ≠ []) :
    (convert 130 9 v).run Try.prog w = .ok (.string ⟨l.toArray⟩) w := by
  have hcell := fun g (hg : v.ownBlock = some g) => h.cells hg
  obtain ⟨hlen, hv | ⟨g, cap, cur, rfl, _⟩⟩ := h
  · obtain ⟨_, rfl⟩ := hv
    simp [Lib.byteCells] at hlen
    exact absurd hlen hl
  · have e : n = l.length := by simpa [Lib.byteCells] using hlen.symm
    subst e
    refine run_convert_bytes_back w 130 9 5 ⟨g, 0, none⟩ cap l Try.underlying130 Try.underlying5 Try.underlying9 ?_
    intro j hj
    exact hcell g rfl j _ (by simp [Lib.byteCells, hj])

theorem byteCells_snoc (l : List UInt8) (b : UInt8) : Lib.byteCells (l ++ [b]) = Lib.byteCells l ++ [.int .u8 (b.toNat : Int)] := by simp [Lib.byteCells]

/- one byte in a block, made a string -/
theorem conv1 (w : World) (b : Nat) (x : Nat) (hx : x < 256) (h : w.cell? ⟨b, 0, none⟩ = some (.int .u8 (x : Int))) :
    (convert 130 9 (.slice (some ⟨b, 0, none⟩) 1 1)).run Try.prog w = .ok (.string ⟨#[UInt8.ofNat x]⟩) w := by
  have := run_convert_bytes_back (P := Try.prog) w 130 9 5 ⟨b, 0, none⟩ 1 [UInt8.ofNat x] Try.underlying130 Try.underlying5 Try.underlying9 (by
    intro j hj
    simp at hj; subst hj
    simpa [Addr.add, Nat.mod_eq_of_lt hx] using h)
  simpa using this

/- two strings joined -/
theorem add_lists (x y : List UInt8) (h : x.length + y.length ≤ 9223372036854775807) (w : World) : (Op.stringOp .add ⟨x.toArray⟩ ⟨y.toArray⟩).run Try.prog w = .ok (.string ⟨(x ++ y).toArray⟩) w := by
  rw [run_string_add_sum w _ _ (by simpa [ByteArray.size] using h), ByteArray.mk_append_mk]
end Go.Proofs.Ythfbpilfdfploaa
namespace Go.Proofs.Ythfbpilfdfploaa.Idn

/- a path of which every organisation is from 0 to 15 and stands once -/
def pathB : List Int → List Int → Bool
  | _, [] => true
  | seen, o :: r => decide (0 ≤ o) && decide (o < 16) && !(seen.contains o) && pathB (seen ++ [o]) r

def stepsB (l : List (Int × Int)) : Bool := l.all fun h => decide (0 ≤ h.1) && decide (h.1 < 8)

def path (r : Int) (l : List (Int × Int)) : List Int := r :: l.map (·.2)

def mayB (r n : Int) (l : List (Int × Int)) : Bool :=
  decide (1 ≤ n) && decide (n ≤ 999999) && decide (l.length ≤ 4) && stepsB l && pathB [] (path r l)


/- the hops alone, one by one -/
def hopsB (r : Int) : List Int → List (Int × Int) → Bool
  | _, [] => true
  | seen, h :: t => decide (0 ≤ h.1) && decide (h.1 < 8) && decide (0 ≤ h.2) && decide (h.2 < 16) && !(h.2 == r) && !(seen.contains h.2) && hopsB r (seen ++ [h.2]) t

theorem hops_path (r : Int) (l : List (Int × Int)) : ∀ seen, hopsB r seen l = (stepsB l && pathB (r :: seen) (l.map (·.2))) := by
  induction l with
  | nil => intro seen; rfl
  | cons h t ih =>
    intro seen
    have e1 : stepsB (h :: t) = (decide (0 ≤ h.1) && decide (h.1 < 8) && stepsB t) := rfl
    have e2 : pathB (r :: seen) ((h :: t).map (·.2)) = (decide (0 ≤ h.2) && decide (h.2 < 16) && !((r :: seen).contains h.2) && pathB ((r :: seen) ++ [h.2]) (t.map (·.2))) := rfl
    have e3 : (r :: seen).contains h.2 = (h.2 == r || seen.contains h.2) := rfl
    rw [hopsB, ih, e1, e2, e3, List.cons_append]
    generalize decide (0 ≤ h.1) = a
    generalize decide (h.1 < 8) = b
    generalize decide (0 ≤ h.2) = c
    generalize decide (h.2 < 16) = d
    generalize (h.2 == r) = e
    generalize seen.contains h.2 = f
    generalize stepsB t = g
    generalize pathB _ _ = k
    revert a b c d e f g k
    decide
theorem may_hops (r n : Int) (l : List (Int × Int)) : mayB r n l = (decide (1 ≤ n) && decide (n ≤ 999999) && decide (l.length ≤ 4) && decide (0 ≤ r) && decide (r < 16) && hopsB r [] l) := by
  have e2 : pathB [] (path r l) = (decide (0 ≤ r) && decide (r < 16) && pathB [r] (l.map (·.2))) := by
    show (decide (0 ≤ r) && decide (r < 16) && !(([] : List Int).contains r) && pathB ([] ++ [r]) (l.map (·.2))) = _
    simp
  rw [mayB, hops_path, e2]
  generalize decide (1 ≤ n) = a
  generalize decide (n ≤ 999999) = b
  generalize decide (l.length ≤ 4) = c
  generalize decide (0 ≤ r) = d
  generalize decide (r < 16) = e
  generalize stepsB l = g
  generalize pathB _ _ = k
  revert a b c d e g k
  decide
end Go.Proofs.Ythfbpilfdfploaa.Idn
namespace Go.Proofs.Ythfbpilfdfploaa
open Go.RowKit

theorem Gr.grownBy {w w' : World} (h : Gr w w') : w.grownBy w' none := ⟨h.below.os, h.below.tape, h.below.output, h.below.size, fun k hk _ => h.below.block k hk⟩
theorem Gr.keep {W w1 : World} (g : Gr W w1) {p : Addr} {v : Value} (h : W.cell? p = some v) : w1.cell? p = some v :=
  (g.below.cell (World.block_lt_of_cell? W p h)).trans h

/- a row of hops in memory, its address whatever where there is none -/
def HopsAt (w : World) (ad : Option Addr) (L : List (Int × Int)) : Prop :=
  ∀ j (h : j < L.length), ∃ b off, ad = some ⟨b, off, none⟩ ∧ b < w.heap.size ∧ w.cell? ⟨b, off + j * 2, none⟩ = some (.int .i64 L[j].1) ∧ w.cell? ⟨b, off + j * 2 + 1, none⟩ = some (.int .i64 L[j].2)
theorem HopsAt.gr {w w' : World} {ad : Option Addr} {L : List (Int × Int)} (h : HopsAt w ad L) (g : Gr w w') : HopsAt w' ad L := by
  intro j hj
  obtain ⟨b, off, e, hb, hc, hd⟩ := h j hj
  exact ⟨b, off, e, Nat.lt_of_lt_of_le hb g.size, g.keep hc, g.keep hd⟩
theorem HopsAt.nil {w : World} {ad : Option Addr} : HopsAt w ad [] := fun j h => absurd h (by simp)
theorem HopsAt.take {w : World} {ad : Option Addr} {L : List (Int × Int)} (h : HopsAt w ad L) (k : Nat) : HopsAt w ad (L.take k) := by
  intro j hj
  have hj' : j < L.length := by rw [List.length_take] at hj; omega
  obtain ⟨b, off, e, hb, hc, hd⟩ := h j hj'
  exact ⟨b, off, e, hb, by rw [List.getElem_take]; exact hc, by rw [List.getElem_take]; exact hd⟩

/- a row of integers in memory -/
def IntsAt (w : World) (ad : Option Addr) (l : List Int) : Prop :=
  ∀ j (h : j < l.length), ∃ b off, ad = some ⟨b, off, none⟩ ∧ b < w.heap.size ∧ w.cell? ⟨b, off + j, none⟩ = some (.int .i64 l[j])
theorem IntsAt.gr {w w' : World} {ad : Option Addr} {l : List Int} (h : IntsAt w ad l) (g : Gr w w') : IntsAt w' ad l := by
  intro j hj
  obtain ⟨b, off, e, hb, hc⟩ := h j hj
  exact ⟨b, off, e, Nat.lt_of_lt_of_le hb g.size, g.keep hc⟩
theorem IntsAt.take {w : World} {ad : Option Addr} {l : List Int} (h : IntsAt w ad l) (k : Nat) : IntsAt w ad (l.take k) := by
  intro j hj
  have hj' : j < l.length := by rw [List.length_take] at hj; omega
  obtain ⟨b, off, e, hb, hc⟩ := h j hj'
  exact ⟨b, off, e, hb, by rw [List.getElem_take]; exact hc⟩

def intV (l : List Int) : List Value := l.map fun n => Value.int .i64 n
theorem own_or (v : Value) : v.ownBlock = none ∨ v.ownBlock ≠ none := by
  cases v.ownBlock with
  | none => exact Or.inl rfl
  | some q => exact Or.inr (by simp)
theorem own_ints {base : Nat} {v : Value} {l : List Int} {w : World} (h : w.ownsRow base 3 1 v l.length (intV l)) : ∃ ad cap, v = .slice ad l.length cap ∧ l.length ≤ cap ∧ IntsAt w ad l := by
  have hcell := fun g (hg : v.ownBlock = some g) => h.cells hg
  have hlt := h.lt
  obtain ⟨_, ⟨rfl, h0⟩ | ⟨g, cap, cur, rfl, hx⟩⟩ := h
  · have : l = [] := List.length_eq_zero_iff.1 h0
    subst this
    exact ⟨none, 0, rfl, by simp, fun j hj => absurd hj (by simp)⟩
  · refine ⟨some ⟨g, 0, none⟩, cap, rfl, hx.2.2.1, ?_⟩
    intro j hj
    refine ⟨g, 0, rfl, (hlt g rfl).2, ?_⟩
    have := hcell g rfl j (.int .i64 l[j]) (by simp [intV, hj])
    rw [Addr.add_lit] at this
    simpa using this
theorem cell_one_at (w : World) (x : Value) (t : TypeId) (n : Nat) (hn : n = w.heap.size) : ∀ j u, [x][j]? = some u → (w.alloc (.cells #[x] t)).cell? ((⟨n, 0, none⟩ : Addr).add j) = some u := by
  subst hn; exact cell_one_new w x t
theorem own_lit1 (w : World) (base : Nat) (x : Value) (t : TypeId) (g : Nat) (hg : g = w.heap.size) (hb : base ≤ w.heap.size) : (w.alloc (.cells #[x] t)).ownsRow base t 1 (.slice (some ⟨g, 0, none⟩) 1 1) 1 [x] := by
  subst hg; exact World.ownsRow_lit w #[x] 1 hb (by unfold maxLen; omega) rfl
theorem infoInt : (Try.prog.info? 3).map (fun i => (i.zero, i.size, i.bytes)) = some (some (.int .i64 0), 1, 8) := by kernel_rfl
theorem infoHop : (Try.prog.info? 83).map (fun i => (i.zero, i.size, i.bytes)) = some (some (.agg #[.int .i64 0, .int .i64 0]), 2, 16) := by kernel_rfl
end Go.Proofs.Ythfbpilfdfploaa
namespace Go.Proofs.Ythfbpilfdfploaa
open Go.RowKit

theorem path_more (r : Int) (L : List (Int × Int)) (k : Nat) (h : k < L.length) : Idn.path r (L.take (k + 1)) = Idn.path r (L.take k) ++ [L[k].2] := by
  unfold Idn.path; rw [List.take_succ_eq_append_getElem h, List.map_append]; rfl
theorem path_len (r : Int) (L : List (Int × Int)) : (Idn.path r L).length = L.length + 1 := by simp [Idn.path]

set_option maxHeartbeats 1000000 in
set_option maxRecDepth 100000 in
theorem pathOf_any (r n : Int) (L : List (Int × Int)) (ad : Option Addr) (cap : Nat) (w : World) (hL : HopsAt w ad L) (hn : L.length ≤ 1000) :
    Calls Try.prog 94 #[.agg #[.int .i64 r, .int .i64 n, .slice ad L.length cap]] w fun e w' =>
      ∃ ad2 cap2, e = .returned (.slice ad2 (L.length + 1) cap2) ∧ L.length + 1 ≤ cap2 ∧ IntsAt w' ad2 (Idn.path r L) ∧ Gr w w' := by
  obtain ⟨i0, hi, hz0, hz1, hz2⟩ := info_parts infoInt
  have HL : Hid (HopsAt w ad L) := hL
  clear hL
  go_enter Try.func94, Try.ntmps94
  go_wp2
  go_loopw [3, 12] (fun p i wr => ∃ k : Nat, k ≤ L.length ∧ i = .int .i64 k ∧ wr.ownsRow w.heap.size 3 1 p (k + 1) (intV (Idn.path r (L.take k))) ∧ Below w.heap.size w wr)
    (fun _ i _ => L.length - (intOf i).toNat)
  case atStart => exact ⟨0, by omega, rfl, own_lit1 _ _ _ _ _ (by simp) (by simp), ((Below.refl _ _).alloc (Nat.le_refl _) _).alloc (by simp) _⟩
  case round =>
    obtain ⟨k, hk, rfl, hown, hb⟩ := hrel
    have hbs := hb.size
    by_cases hlt : k < L.length
    · obtain ⟨b, off, rfl, hbl, hc, hd⟩ := HL.out k hlt
      have hc' := (hb.cell (p := ⟨b, off + k * 2, none⟩) hbl).trans hc
      have hd' := (hb.cell (p := ⟨b, off + k * 2 + 1, none⟩) hbl).trans hd
      have HP : Hid (intV (Idn.path r (L.take (k + 1))) = intV (Idn.path r (L.take k)) ++ [.int .i64 L[k].2]) := by
        show _ = _
        rw [path_more r L k hlt]; simp [intV]
      have hm1 : k + 1 + 1 ≤ maxLen := by unfold maxLen; omega
      obtain ⟨⟨h1, h2⟩, hh⟩ : ∃ h, L[k] = h := ⟨_, rfl⟩
      rw [hh] at hc' hd' HP
      clear hc hd hh
      go_wp2_with (first
        | (at_builtin; refine wpList_append_own _ rfl _ _ 35 rfl w.heap.size 3 i0 (.int .i64 0) 1 8 Try.underlying35 hi hz0 hz1 hz2 rfl (by decide) _ _ _ rfl ((hown.alloc _).alloc _) ⟨wr.heap.size + 1, 0, none⟩ 1 1 [.int .i64 h2] rfl rfl (cell_one_at _ _ _ _ (by simp)) (by intro u hu; simp at hu; subst hu; rfl) hm1 (by omega) (by simp; omega) ?_)
        | fail)
      intro v' w1 hown' hgrow _
      go_wp2
      go_roundw
      case rel =>
        exact ⟨k + 1, by omega, by go_num, by rw [HP.out]; exact hown', ((hb.alloc hbs _).alloc (by simp; omega) _).grown hgrow (by simp; omega) (fun k hk => (hown.lt k hk).1)⟩
      case measure => simp [intOf]; omega
    · have hkl : k = L.length := by omega
      subst hkl
      have key : ∀ {u : Value}, wr.ownsRow w.heap.size 3 1 u (L.length + 1) (intV (Idn.path r (L.take L.length))) → ∃ ad2 cap2, u = .slice ad2 (L.length + 1) cap2 ∧ L.length + 1 ≤ cap2 ∧ IntsAt wr ad2 (Idn.path r L) := by
        intro u h
        rw [List.take_length] at h
        have := own_ints (l := Idn.path r L) (by rw [path_len]; exact h)
        rw [path_len] at this
        exact this
      obtain ⟨ad2, cap2, rfl, hcp, hia⟩ := key hown
      have HI : Hid (IntsAt wr ad2 (Idn.path r L)) := hia
      clear hown key hia
      go_wp2
      go_ret
      exact ⟨ad2, cap2, rfl, hcp, HI.out, ⟨hb⟩⟩
end Go.Proofs.Ythfbpilfdfploaa
namespace Go.Proofs.Ythfbpilfdfploaa
open Go.RowKit

def errB (b : Bool) : Int := if b = true then 0 else 30

set_option maxHeartbeats 1000000 in
set_option maxRecDepth 100000 in
theorem checkPath_any (l : List Int) (ad : Option Addr) (cap : Nat) (w : World) (hL : IntsAt w ad l) (hn : l.length ≤ 1001) (hcap : l.length ≤ cap) :
    Calls Try.prog 93 #[.slice ad l.length cap] w fun e w' => e = .returned (.int .i64 (errB (Idn.pathB [] l))) ∧ w' = w := by
  have HL : Hid (IntsAt w ad l) := hL
  clear hL
  go_enter Try.func93, Try.ntmps93
  go_wp2
  go_loop [7] (fun i => ∃ k : Nat, k ≤ l.length ∧ i = .int .i64 k ∧ Idn.pathB [] l = Idn.pathB (l.take k) (l.drop k)) (fun i => l.length - (intOf i).toNat)
  case atStart => exact ⟨0, by omega, rfl, by simp⟩
  case round =>
    obtain ⟨k, hk, rfl, hp⟩ := hrel
    have HP : Hid (Idn.pathB [] l = Idn.pathB (l.take k) (l.drop k)) := hp
    clear hp
    by_cases hlt : k < l.length
    · obtain ⟨b, off, rfl, hbl, hc⟩ := HL.out k hlt
      have HP2 : Hid (Idn.pathB [] l = (decide (0 ≤ l[k]) && decide (l[k] < 16) && !((l.take k).contains l[k]) && Idn.pathB (l.take (k + 1)) (l.drop (k + 1)))) := by
        show _ = _
        rw [HP.out, List.drop_eq_getElem_cons hlt, Idn.pathB, List.take_succ_eq_append_getElem hlt]
      have hall : ∀ j, j < l.length → w.cell? ⟨b, off + j, none⟩ = some (.int .i64 (l.getD j 0)) := by
        intro j hj
        obtain ⟨b', off', e, _, h⟩ := HL.out j hj
        simp at e
        obtain ⟨rfl, rfl⟩ := e
        rw [h, List.getD_eq_getElem?_getD, List.getElem?_eq_getElem hj]; rfl
      have HC : Hid (Calls Try.prog 103 #[.slice (some ⟨b, off, none⟩) k cap, .int .i64 l[k]] w fun e w' => e = .returned (.bool ((l.take k).contains l[k])) ∧ w' = w) := Try.slices_Contains_int b off k cap l l[k] w (by omega) (by omega) hall
      generalize (l.take k).contains l[k] = ct at HC HP2
      generalize l[k] = o at *
      clear hall
      by_cases h0 : 0 ≤ o
      · by_cases h1 : o < 16
        · cases ct with
          | true =>
            go_wp2_with fail
            refine HC.out.mono ?_
            rintro e1 w1 ⟨rfl, hw1⟩; obtain rfl := hw1.symm
            go_wp2
            go_ret
            exact ⟨by rw [HP2.out]; simp [errB], rfl⟩
          | false =>
            go_wp2_with fail
            refine HC.out.mono ?_
            rintro e1 w1 ⟨rfl, hw1⟩; obtain rfl := hw1.symm
            go_wp2
            go_round
            case rel => exact ⟨k + 1, by omega, by go_num, by rw [HP2.out]; simp [h0, h1]⟩
            case measure => simp [intOf]; omega
        · have HF : Hid (Idn.pathB [] l = false) := by show _ = _; rw [HP2.out]; simp [h1]
          go_wp2
          go_ret
          exact ⟨by rw [HF.out]; rfl, rfl⟩
      · have HF : Hid (Idn.pathB [] l = false) := by show _ = _; rw [HP2.out]; simp [h0]
        go_wp2
        go_ret
        exact ⟨by rw [HF.out]; rfl, rfl⟩
    · go_wp2
      go_ret
      exact ⟨by rw [HP.out, List.drop_eq_nil_of_le (by omega)]; rfl, rfl⟩

set_option maxHeartbeats 1000000 in
set_option maxRecDepth 100000 in
theorem check_any (r n : Int) (L : List (Int × Int)) (ad : Option Addr) (cap : Nat) (w : World) (hL : HopsAt w ad L) (hn : L.length ≤ 9223372036854775807) :
    Calls Try.prog 83 #[.agg #[.int .i64 r, .int .i64 n, .slice ad L.length cap]] w fun e w' => e = .returned (.int .i64 (errB (Idn.mayB r n L))) ∧ Gr w w' := by
  by_cases h1 : 1 ≤ n
  · by_cases h2 : n ≤ 999999
    · by_cases h3 : L.length ≤ 4
      · have HM : Hid (Idn.mayB r n L = (Idn.stepsB L && Idn.pathB [] (Idn.path r L))) := by
          show _ = _
          simp [Idn.mayB, h1, h2, h3]
        have HL : Hid (HopsAt w ad L) := hL
        have HO : Hid (∀ w', Gr w w' → Calls Try.prog 94 #[.agg #[.int .i64 r, .int .i64 n, .slice ad L.length cap]] w' fun e w2 => ∃ ad2 cap2, e = .returned (.slice ad2 (L.length + 1) cap2) ∧ L.length + 1 ≤ cap2 ∧ IntsAt w2 ad2 (Idn.path r L) ∧ Gr w' w2) := fun w' g => pathOf_any r n L ad cap w' (hL.gr g) (by omega)
        clear hL
        go_enter Try.func83, Try.ntmps83
        go_wp2
        go_loopw [22] (fun i wr => ∃ k : Nat, k ≤ L.length ∧ i = .int .i64 k ∧ Idn.stepsB L = Idn.stepsB (L.drop k) ∧ Below (w.heap.size + 1) (w.alloc (.cells #[.int .i64 r, .int .i64 n, .slice ad L.length cap] 24)) wr) (fun i _ => L.length - (intOf i).toNat)
        case atStart => exact ⟨0, by omega, rfl, rfl, Below.refl _ _⟩
        case round =>
          obtain ⟨k, hk, rfl, hs, hb⟩ := hrel
          have hbs : w.heap.size + 1 ≤ wr.heap.size := by have := hb.size; simpa using this
          have HS : Hid (Idn.stepsB L = Idn.stepsB (L.drop k)) := hs
          have hgr : Gr w wr := ⟨((Below.refl _ _).alloc (Nat.le_refl _) _).trans (hb.mono (by omega))⟩
          have q0 : wr.cell? ⟨w.heap.size, 0, none⟩ = some (.int .i64 r) := (hb.cell (p := ⟨w.heap.size, 0, none⟩) (by simp)).trans (by simp)
          have q1 : wr.cell? ⟨w.heap.size, 1, none⟩ = some (.int .i64 n) := (hb.cell (p := ⟨w.heap.size, 1, none⟩) (by simp)).trans (by simp)
          have q2 : wr.cell? ⟨w.heap.size, 2, none⟩ = some (.slice ad L.length cap) := (hb.cell (p := ⟨w.heap.size, 2, none⟩) (by simp)).trans (by simp)
          clear hs
          by_cases hlt : k < L.length
          · obtain ⟨b, off, rfl, hbl, hc, hd⟩ := HL.out k hlt
            have hc' := hgr.keep hc
            have hd' := hgr.keep hd
            have HS2 : Hid (Idn.stepsB L = (decide (0 ≤ L[k].1) && decide (L[k].1 < 8) && Idn.stepsB (L.drop (k + 1)))) := by
              show _ = _
              rw [HS.out, List.drop_eq_getElem_cons hlt]; rfl
            obtain ⟨⟨p1, p2⟩, hh⟩ : ∃ h, L[k] = h := ⟨_, rfl⟩
            rw [hh] at hc' hd' HS2
            clear hc hd hh HL
            by_cases g0 : 0 ≤ p1
            · by_cases g1 : p1 < 8
              · go_wp2
                go_roundw
                case rel => exact ⟨k + 1, by omega, by go_num, by rw [HS2.out]; simp [g0, g1], hb.alloc hbs _⟩
                case measure => simp [intOf]; omega
              · have HF : Hid (Idn.mayB r n L = false) := by show _ = _; rw [HM.out, HS2.out]; simp [g1]
                go_wp2
                go_ret
                exact ⟨by rw [HF.out]; rfl, ⟨hgr.below.alloc hgr.size _⟩⟩
            · have HF : Hid (Idn.mayB r n L = false) := by show _ = _; rw [HM.out, HS2.out]; simp [g0]
              go_wp2
              go_ret
              exact ⟨by rw [HF.out]; rfl, ⟨hgr.below.alloc hgr.size _⟩⟩
          · have HM2 : Hid (Idn.mayB r n L = Idn.pathB [] (Idn.path r L)) := by
              show _ = _
              rw [HM.out, HS.out, List.drop_eq_nil_of_le (by omega)]; simp [Idn.stepsB]
            have HC : Hid (∀ (w' : World) (ad2 : Option Addr) (cap2 : Nat), IntsAt w' ad2 (Idn.path r L) → L.length + 1 ≤ cap2 → Calls Try.prog 93 #[.slice ad2 (L.length + 1) cap2] w' fun e w2 => e = .returned (.int .i64 (errB (Idn.pathB [] (Idn.path r L)))) ∧ w2 = w') := by
              intro w' ad2 cap2 hi hc
              have := checkPath_any (Idn.path r L) ad2 cap2 w' hi (by rw [path_len]; omega) (by rw [path_len]; exact hc)
              rw [path_len] at this
              exact this
            go_wp2_with fail
            refine (HO.out _ hgr).mono ?_
            rintro e1 w1 ⟨ad2, cap2, rfl, hcp, hia, hg1⟩
            go_wp2_with fail
            refine (HC.out _ _ _ hia hcp).mono ?_
            rintro e2 w2 ⟨rfl, hw2⟩; obtain rfl := hw2.symm
            go_wp2
            go_ret
            exact ⟨by rw [HM2.out]; rfl, hgr.trans hg1⟩
      · have h3' : ((4 : Int) < L.length) := by omega
        have HM : Hid (Idn.mayB r n L = false) := by show _ = _; simp [Idn.mayB, h3]
        go_enter Try.func83, Try.ntmps83
        go_wp2
        go_ret
        exact ⟨by rw [HM.out]; rfl, ⟨(Below.refl _ _).alloc (Nat.le_refl _) _⟩⟩
    · have HM : Hid (Idn.mayB r n L = false) := by show _ = _; simp [Idn.mayB, h2]
      go_enter Try.func83, Try.ntmps83
      go_wp2
      go_ret
      exact ⟨by rw [HM.out]; rfl, ⟨(Below.refl _ _).alloc (Nat.le_refl _) _⟩⟩
  · have HM : Hid (Idn.mayB r n L = false) := by show _ = _; simp [Idn.mayB, h1]
    go_enter Try.func83, Try.ntmps83
    go_wp2
    go_ret
    exact ⟨by rw [HM.out]; rfl, ⟨(Below.refl _ _).alloc (Nat.le_refl _) _⟩⟩
end Go.Proofs.Ythfbpilfdfploaa
namespace Go.Proofs.Ythfbpilfdfploaa
open Go.RowKit

def hopV (L : List (Int × Int)) : List Value := L.flatMap fun h => [.int .i64 h.1, .int .i64 h.2]
theorem hopV_len (L : List (Int × Int)) : (hopV L).length = L.length * 2 := by
  induction L with
  | nil => rfl
  | cons h t ih => simp [hopV] at ih ⊢; omega
theorem hopV_app (L M : List (Int × Int)) : hopV (L ++ M) = hopV L ++ hopV M := by simp [hopV]
theorem hopV_get (L : List (Int × Int)) : ∀ j (h : j < L.length), (hopV L)[j * 2]? = some (.int .i64 L[j].1) ∧ (hopV L)[j * 2 + 1]? = some (.int .i64 L[j].2) := by
  induction L with
  | nil => intro j h; simp at h
  | cons x t ih =>
    intro j h
    have e : hopV (x :: t) = .int .i64 x.1 :: .int .i64 x.2 :: hopV t := rfl
    rw [e]
    cases j with
    | zero => exact ⟨rfl, rfl⟩
    | succ j =>
      obtain ⟨h1, h2⟩ := ih j (by simpa using h)
      refine ⟨?_, ?_⟩
      · have : (j + 1) * 2 = j * 2 + 1 + 1 := by omega
        rw [this]; simpa using h1
      · have : (j + 1) * 2 + 1 = j * 2 + 1 + 1 + 1 := by omega
        rw [this]; simpa using h2
theorem hopV_one (L : List (Int × Int)) : ∀ u ∈ hopV L, u.oneCell' = true := by
  intro u hu
  simp only [hopV, List.mem_flatMap] at hu
  obtain ⟨h, _, hu⟩ := hu
  simp at hu
  rcases hu with rfl | rfl <;> rfl
/- what hops in memory are, cell by cell -/
theorem HopsAt.news {w : World} {b off : Nat} {L : List (Int × Int)} (h : HopsAt w (some ⟨b, off, none⟩) L) : ∀ j u, (hopV L)[j]? = some u → w.cell? ((⟨b, off, none⟩ : Addr).add j) = some u := by
  intro j u hu
  have hj : j < L.length * 2 := by
    rw [← hopV_len]
    exact (List.getElem?_eq_some_iff.1 hu).1
  have hj2 : j / 2 < L.length := by omega
  obtain ⟨b', off', e, _, h1, h2⟩ := h (j / 2) hj2
  simp at e
  obtain ⟨rfl, rfl⟩ := e
  obtain ⟨g1, g2⟩ := hopV_get L (j / 2) hj2
  rw [Addr.add_lit]
  rcases Nat.mod_two_eq_zero_or_one j with hm | hm
  · have e : j = j / 2 * 2 := by omega
    rw [e] at hu ⊢
    rw [g1] at hu
    rw [← hu]; exact h1
  · have e : j = j / 2 * 2 + 1 := by omega
    rw [e] at hu ⊢
    rw [g2] at hu
    rw [← hu, ← Nat.add_assoc]; exact h2
/- a row of hops that the call owns -/
theorem own_hops {base : Nat} {v : Value} {L : List (Int × Int)} {w : World} (h : w.ownsRow base 83 2 v L.length (hopV L)) : ∃ ad cap, v = .slice ad L.length cap ∧ L.length ≤ cap ∧ HopsAt w ad L ∧ ∀ a, ad = some a → base ≤ a.block := by
  have hcell := fun g (hg : v.ownBlock = some g) => h.cells hg
  have hlt := h.lt
  obtain ⟨_, ⟨rfl, h0⟩ | ⟨g, cap, cur, rfl, hx⟩⟩ := h
  · have : L = [] := List.length_eq_zero_iff.1 h0
    subst this
    exact ⟨none, 0, rfl, by simp, HopsAt.nil, fun a e => by cases e⟩
  · refine ⟨some ⟨g, 0, none⟩, cap, rfl, hx.2.2.1, ?_, fun a e => by cases e; exact (hlt g rfl).1⟩
    intro j hj
    obtain ⟨g1, g2⟩ := hopV_get L j hj
    have c1 := hcell g rfl _ _ g1
    have c2 := hcell g rfl _ _ g2
    rw [Addr.add_lit] at c1 c2
    exact ⟨g, 0, rfl, (hlt g rfl).2, c1, by rw [← Nat.add_assoc] at c2; exact c2⟩
theorem HopsAt.alloc {w : World} {ad : Option Addr} {L : List (Int × Int)} {ob : Obj} (h : HopsAt w ad L) : HopsAt (w.alloc ob) ad L := h.gr (Gr.refl _).alloc
theorem HopsAt.drew {w : World} {ad : Option Addr} {L : List (Int × Int)} (h : HopsAt w ad L) : HopsAt w.drew ad L := h.gr (Gr.refl _).drew
theorem HopsAt.set {w : World} {ad : Option Addr} {L : List (Int × Int)} (h : HopsAt w ad L) (p : Addr) (v : Value) (hp : ∀ a, ad = some a → p.block ≠ a.block) : HopsAt (w.setCell p v) ad L := by
  intro j hj
  obtain ⟨b, off, e, hb, h1, h2⟩ := h j hj
  have hne : p.block ≠ b := hp _ e
  refine ⟨b, off, e, by simpa using hb, ?_, ?_⟩
  · rw [World.cell?_setCell_far _ _ _ _ (by simpa using hne)]; exact h1
  · rw [World.cell?_setCell_far _ _ _ _ (by simpa using hne)]; exact h2
theorem own_lit0 (w : World) (base : Nat) (t : TypeId) (g : Nat) (hg : g = w.heap.size) (hb : base ≤ w.heap.size) : (w.alloc (.cells #[] t)).ownsRow base t 2 (.slice (some ⟨g, 0, none⟩) 0 0) 0 [] := by
  subst hg; exact World.ownsRow_lit w #[] 0 hb (by unfold maxLen; omega) rfl

set_option maxHeartbeats 1000000 in
set_option maxRecDepth 100000 in
theorem clone_any (L : List (Int × Int)) (b off cap : Nat) (w : World) (hL : HopsAt w (some ⟨b, off, none⟩) L) (hn : L.length ≤ 1000) :
    Calls Try.prog 84 #[.slice (some ⟨b, off, none⟩) L.length cap] w fun e w' => ∃ ad2 cap2, e = .returned (.slice ad2 L.length cap2) ∧ L.length ≤ cap2 ∧ HopsAt w' ad2 L ∧ (∀ a, ad2 = some a → w.heap.size ≤ a.block) ∧ Gr w w' := by
  obtain ⟨i0, hi, hz0, hz1, hz2⟩ := info_parts infoHop
  have hnews := (hL.gr ((Gr.refl w).alloc (o := .cells #[] 83))).news
  have HN : Hid (∀ j u, (hopV L)[j]? = some u → (w.alloc (.cells #[] 83)).cell? ((⟨b, off, none⟩ : Addr).add j) = some u) := hnews
  have hln := hopV_len L
  have hm1 : 0 + L.length ≤ maxLen := by unfold maxLen; omega
  clear hL hnews
  have he : ∀ w : World, (binOp .eql 22 (.slice (some ⟨b, off, none⟩) L.length cap) (.slice none 0 0)).run Try.prog w = .ok (.bool false) w := fun _ => rfl
  go_enter Try.func84, Try.ntmps84
  go_wp2_with (first
    | (at_builtin; refine wpList_append_own _ rfl _ _ 22 rfl w.heap.size 83 i0 (.agg #[.int .i64 0, .int .i64 0]) 2 16 Try.underlying22 hi hz0 hz1 hz2 rfl (by decide) _ _ _ rfl (own_lit0 _ _ _ _ (by simp) (by simp)) ⟨b, off, none⟩ L.length cap (hopV L) rfl hln HN.out (hopV_one L) hm1 (by omega) (by simp) ?_)
    | fail)
  intro v' w1 hown' hgrow _
  obtain ⟨ad2, cap2, rfl, hcp, hia, hfr⟩ := own_hops hown'
  have HI : Hid (HopsAt w1 ad2 L) := hia
  have HFR : Hid (∀ a, ad2 = some a → w.heap.size ≤ a.block) := hfr
  have hb1 : Below w.heap.size w (w.alloc (.cells #[] 83)) := (Below.refl w.heap.size w).alloc (Nat.le_refl _) _
  have HG : Hid (Gr w w1) := ⟨hb1.grown hgrow (by simp) (fun k hk => by simp [Value.ownBlock] at hk; omega)⟩
  clear hown' hia hfr
  go_wp2
  go_ret
  exact ⟨ad2, cap2, rfl, hcp, HI.out, HFR.out, HG.out⟩

theorem zeroCells_len (z : Array Value) (n : Nat) : (Builtin.zeroCells z n).size = n * z.size := by
  simp [Builtin.zeroCells]

theorem own_grow {base : Nat} {w w' : World} (h : Below base w w') (hb : base ≤ w.heap.size) (o : Obj) : Below base w (w'.alloc o) := h.alloc (Nat.le_trans hb h.size) o

end Go.Proofs.Ythfbpilfdfploaa
namespace Go.Proofs.Ythfbpilfdfploaa
open Go.RowKit

theorem Gr.set {a b : World} (h : Gr a b) (p : Addr) (hp : a.heap.size ≤ p.block) (v : Value) : Gr a (b.setCell p v) := ⟨h.below.setCell hp v⟩

/- a struct of three cells in memory that may be written -/
structure BoxAt (w : World) (g : Nat) (a b c : Value) : Prop where
  c0 : w.cell? ⟨g, 0, none⟩ = some a
  c1 : w.cell? ⟨g, 1, none⟩ = some b
  c2 : w.cell? ⟨g, 2, none⟩ = some c
  f0 : w.frozen? ⟨g, 0, none⟩ = false
  f1 : w.frozen? ⟨g, 1, none⟩ = false
  f2 : w.frozen? ⟨g, 2, none⟩ = false
  lt : g < w.heap.size
theorem Gr.keepF {W w1 : World} (g : Gr W w1) {p : Addr} (hb : p.block < W.heap.size) (h : W.frozen? p = false) : w1.frozen? p = false := (g.below.frozen hb).trans h
theorem BoxAt.gr {w w' : World} {g : Nat} {a b c : Value} (h : BoxAt w g a b c) (k : Gr w w') : BoxAt w' g a b c :=
  ⟨k.keep h.c0, k.keep h.c1, k.keep h.c2, k.keepF h.lt h.f0, k.keepF h.lt h.f1, k.keepF h.lt h.f2, Nat.lt_of_lt_of_le h.lt k.size⟩
theorem BoxAt.new (w : World) (a b c : Value) (t : TypeId) (g : Nat) (hg : g = w.heap.size) : BoxAt (w.alloc (.cells #[a, b, c] t)) g a b c := by
  subst hg
  exact ⟨by simp, by simp, by simp, by simp [go_sem], by simp [go_sem], by simp [go_sem], by simp⟩

set_option maxHeartbeats 1000000 in
set_option maxRecDepth 100000 in
theorem parent_no (r n : Int) (L : List (Int × Int)) (ad : Option Addr) (cap : Nat) (w : World) (hL : HopsAt w ad L) (hn : L.length ≤ 9223372036854775807) (hm : Idn.mayB r n L = false ∨ L = []) :
    Calls Try.prog 59 #[.agg #[.int .i64 r, .int .i64 n, .slice ad L.length cap]] w fun e w' => e = .returned (.tuple #[.agg #[.int .i64 0, .int .i64 0, .slice none 0 0], .int .i64 0, .bool false]) ∧ Gr w w' := by
  have HC : Hid (∀ w', Gr w w' → Calls Try.prog 83 #[.agg #[.int .i64 r, .int .i64 n, .slice ad L.length cap]] w' fun e w2 => e = .returned (.int .i64 (errB (Idn.mayB r n L))) ∧ Gr w' w2) := fun w' g => check_any r n L ad cap w' (hL.gr g) hn
  clear hL
  by_cases h1 : Idn.mayB r n L = false
  · rw [h1, show errB false = 30 from rfl] at HC
    clear h1 hm
    go_enter Try.func59, Try.ntmps59
    go_wp2_with fail
    refine (HC.out _ (by repeat(first|exact Gr.r _|refine Gr.a ?_|refine Gr.d ?_|refine Gr.t ?_ (by assumption)))).mono ?_
    rintro e1 w1 ⟨rfl, hg1⟩
    obtain ⟨hc1, hf1⟩ := hg1.cells
    go_wp2
    exact bodyPost_ret (v := .tuple #[.agg #[.int .i64 0, .int .i64 0, .slice none 0 0], .int .i64 0, .bool false]) (by simp [results, Try.results59, go_sem, hc1]) rfl ⟨rfl, (by (with_reducible repeat' (first | exact Gr.refl _ | refine Gr.set ?_ _ ?_ _ | refine Gr.alloc ?_ | refine Gr.drew ?_ | refine Gr.trans ?_ (by assumption))) <;> (first | (simp; done) | (simp; omega) | omega))⟩
  · have h2 : Idn.mayB r n L = true := by simpa using h1
    obtain rfl : L = [] := by
      rcases hm with h | h
      · exact absurd h h1
      · exact h
    rw [h2, show errB true = 0 from rfl] at HC
    clear h1 hm h2
    go_enter Try.func59, Try.ntmps59
    go_wp2_with fail
    refine (HC.out _ (by repeat(first|exact Gr.r _|refine Gr.a ?_|refine Gr.d ?_|refine Gr.t ?_ (by assumption)))).mono ?_
    rintro e1 w1 ⟨rfl, hg1⟩
    obtain ⟨hc1, hf1⟩ := hg1.cells
    go_wp2
    exact bodyPost_ret (v := .tuple #[.agg #[.int .i64 0, .int .i64 0, .slice none 0 0], .int .i64 0, .bool false]) (by simp [results, Try.results59, go_sem, hc1]) rfl ⟨rfl, (by (with_reducible repeat' (first | exact Gr.refl _ | refine Gr.set ?_ _ ?_ _ | refine Gr.alloc ?_ | refine Gr.drew ?_ | refine Gr.trans ?_ (by assumption))) <;> (first | (simp; done) | (simp; omega) | omega))⟩

set_option maxHeartbeats 8000000 in
set_option maxRecDepth 100000 in
theorem parent_yes (r n s o : Int) (M : List (Int × Int)) (b off : Nat) (cap : Nat) (w : World) (hL : HopsAt w (some ⟨b, off, none⟩) (M ++ [(s, o)])) (hcap : M.length + 1 ≤ cap) (hm : Idn.mayB r n (M ++ [(s, o)]) = true) (h4 : M.length ≤ 3) :
    Calls Try.prog 59 #[.agg #[.int .i64 r, .int .i64 n, .slice (some ⟨b, off, none⟩) (M.length + 1) cap]] w fun e w' =>
      ∃ ad2 cap2, e = .returned (.tuple #[.agg #[.int .i64 r, .int .i64 n, .slice ad2 M.length cap2], .int .i64 s, .bool true]) ∧ M.length ≤ cap2 ∧ HopsAt w' ad2 M ∧ Gr w w' := by
  have HC : Hid (∀ w', Gr w w' → Calls Try.prog 83 #[.agg #[.int .i64 r, .int .i64 n, .slice (some ⟨b, off, none⟩) (M.length + 1) cap]] w' fun e w2 => e = .returned (.int .i64 0) ∧ Gr w' w2) := by
    intro w' g
    have := check_any r n (M ++ [(s, o)]) (some ⟨b, off, none⟩) cap w' (hL.gr g) (by simp; omega)
    rw [hm, List.length_append] at this
    exact this
  have HK : Hid (∀ w', Gr w w' → Calls Try.prog 84 #[.slice (some ⟨b, off, none⟩) M.length cap] w' fun e w2 => ∃ ad2 cap2, e = .returned (.slice ad2 M.length cap2) ∧ M.length ≤ cap2 ∧ HopsAt w2 ad2 M ∧ (∀ a, ad2 = some a → w'.heap.size ≤ a.block) ∧ Gr w' w2) := by
    intro w' g
    refine clone_any M b off cap w' ?_ (by omega)
    have := hL.take M.length
    rw [List.take_left] at this
    exact this.gr g
  obtain ⟨b', off', e, hbl, hc, _⟩ := hL M.length (by simp)
  simp at e
  obtain ⟨rfl, rfl⟩ := e
  simp at hc
  have hne : (((M.length : Int) + 1) == 0) = false := by rw [beq_eq_false_iff_ne]; omega
  have hm1 : (M.length : Int) ≤ cap := by omega
  have hm0 : (0 : Int) ≤ M.length := by omega
  clear hL hm
  go_enter Try.func59, Try.ntmps59
  go_wp2_with fail
  refine (HC.out _ (by repeat(first|exact Gr.r _|refine Gr.a ?_|refine Gr.d ?_|refine Gr.t ?_ (by assumption)))).mono ?_
  rintro e1 w1 ⟨rfl, hg1⟩
  have p0 : w1.cell? ⟨w.heap.size, 0, none⟩ = some (.int .i64 r) := hg1.keep (by simp)
  have p1 : w1.cell? ⟨w.heap.size, 1, none⟩ = some (.int .i64 n) := hg1.keep (by simp)
  have p2 : w1.cell? ⟨w.heap.size, 2, none⟩ = some (.slice (some ⟨b, off, none⟩) (M.length + 1) cap) := hg1.keep (by simp)
  have hw1 : w.heap.size ≤ w1.heap.size := by have := hg1.size; simp at this; omega
  have hw2 : w.heap.size + 1 < w1.heap.size := by have := hg1.size; simp at this; omega
  have bx : BoxAt w1 (w.heap.size + 1) (.int .i64 0) (.int .i64 0) (.slice none 0 0) := (BoxAt.new _ _ _ _ _ _ (by simp)).gr hg1
  have hgw : Gr w w1 := (by repeat(first|exact Gr.r _|refine Gr.a ?_|refine Gr.d ?_|refine Gr.t ?_ (by assumption)))
  have hh := hgw.keep hc
  have hbw : b < w1.heap.size := by omega
  clear hgw
  have hn1 : w.heap.size + 1 ≠ w1.heap.size := by omega
  have hn2 : w.heap.size ≠ w1.heap.size := by omega
  have hn3 : b ≠ w1.heap.size := by omega
  have hn4 : b ≠ w.heap.size + 1 := by omega
  have hlt : (M.length : Int) < M.length + 1 := by omega
  go_wp2
  go_region_held3 (fun w' => Gr w w' ∧ Gr w1 w' ∧ w'.cell? ⟨w.heap.size, 0, none⟩ = some (.int .i64 r) ∧ w'.cell? ⟨w.heap.size, 1, none⟩ = some (.int .i64 n) ∧ w'.cell? ⟨w.heap.size, 2, none⟩ = some (.slice (some ⟨b, off, none⟩) (M.length + 1) cap))
    ((go_split_ands; exact ⟨(by (with_reducible repeat' (first | exact Gr.refl _ | refine Gr.set ?_ _ ?_ _ | refine Gr.alloc ?_ | refine Gr.drew ?_ | refine Gr.trans ?_ (by assumption))) <;> (first | (simp; done) | (simp; omega) | omega)), (by (with_reducible repeat' (first | exact Gr.refl _ | refine Gr.set ?_ _ ?_ _ | refine Gr.alloc ?_ | refine Gr.drew ?_ | refine Gr.trans ?_ (by assumption))) <;> (first | (simp; done) | (simp; omega) | omega)), Gr.keep (W := w1) (by (with_reducible repeat' (first | exact Gr.refl _ | refine Gr.set ?_ _ ?_ _ | refine Gr.alloc ?_ | refine Gr.drew ?_ | refine Gr.trans ?_ (by assumption))) <;> (first | (simp; done) | (simp; omega) | omega)) p0, Gr.keep (W := w1) (by (with_reducible repeat' (first | exact Gr.refl _ | refine Gr.set ?_ _ ?_ _ | refine Gr.alloc ?_ | refine Gr.drew ?_ | refine Gr.trans ?_ (by assumption))) <;> (first | (simp; done) | (simp; omega) | omega)) p1, Gr.keep (W := w1) (by (with_reducible repeat' (first | exact Gr.refl _ | refine Gr.set ?_ _ ?_ _ | refine Gr.alloc ?_ | refine Gr.drew ?_ | refine Gr.trans ?_ (by assumption))) <;> (first | (simp; done) | (simp; omega) | omega)) p2⟩))
    ((first | (go_at_call 84; refine (HK.out _ ?_).mono ?_; (go_split_ands; exact (by repeat(first|exact Gr.r _|refine Gr.a ?_|refine Gr.d ?_|refine Gr.t ?_ (by assumption)))); rintro e w2 ⟨ad2, cap2, rfl, hcp, hia, hfr, hg2⟩; obtain ⟨hc2, hf2⟩ := hg2.cells; have hg3 : Gr w1 w2 := (by exact (by repeat(first|exact Gr.r _|refine Gr.a ?_|refine Gr.d ?_|refine Gr.t ?_ (by assumption)))); obtain ⟨b0, b1, b2, b3, b4, b5, b6⟩ := bx.gr hg3; have hz2 := hg2.size; simp at hz2; have hz3 : b < w2.heap.size := (by omega); have hz4 : w.heap.size < w2.heap.size := (by omega); have y1 := hg3.keep hh; have y2 := hg3.keep p2)))
  all_goals go_wp2
  all_goals go_region
  all_goals go_wp2
  all_goals
    exact bodyPost_ret (v := .tuple #[.agg #[.int .i64 r, .int .i64 n, .slice ad2 M.length cap2], .int .i64 s, .bool true]) (by simp [results, Try.results59, go_sem, b0, b1, b2, b6]) rfl ⟨ad2, cap2, rfl, hcp, (by (repeat' (first | with_reducible exact hia | with_reducible refine HopsAt.set ?_ _ _ ?_ | with_reducible refine HopsAt.alloc ?_ | with_reducible refine HopsAt.drew ?_)) <;> (intro a e; have := hfr a e; simp at this ⊢; omega)), (by (with_reducible repeat' (first | exact Gr.refl _ | refine Gr.set ?_ _ ?_ _ | refine Gr.alloc ?_ | refine Gr.drew ?_ | refine Gr.trans ?_ (by assumption))) <;> (first | (simp; done) | (simp; omega) | omega))⟩
end Go.Proofs.Ythfbpilfdfploaa
namespace Go.Proofs.Ythfbpilfdfploaa
open Go.RowKit

/- a row of integers in memory, its address whatever where there is none -/
theorem IntsAt.drop {w : World} {b off : Nat} {l : List Int} (h : IntsAt w (some ⟨b, off, none⟩) l) (k : Nat) : IntsAt w (some ⟨b, off + k, none⟩) (l.drop k) := by
  intro j hj
  rw [List.length_drop] at hj
  obtain ⟨b', off', e, hb, hc⟩ := h (k + j) (by omega)
  cases e
  exact ⟨b, off + k, rfl, hb, by rw [List.getElem_drop, Nat.add_assoc]; exact hc⟩
theorem IntsAt.nil {w : World} {ad : Option Addr} : IntsAt w ad [] := fun j h => absurd h (by simp)
theorem lInts_lit2 (w : World) (x y : Int) (t : TypeId) (g : Nat) (hg : g = w.heap.size) : IntsAt (w.alloc (.cells #[.int .i64 x, .int .i64 y] t)) (some ⟨g, 0, none⟩) [x, y] := by
  subst hg
  intro j hj
  match j, hj with
  | 0, _ => exact ⟨_, _, rfl, by simp, by simp⟩
  | 1, _ => exact ⟨_, _, rfl, by simp, by simp⟩
theorem lInts_lit3 (w : World) (x y z : Int) (t : TypeId) (g : Nat) (hg : g = w.heap.size) : IntsAt (w.alloc (.cells #[.int .i64 x, .int .i64 y, .int .i64 z] t)) (some ⟨g, 0, none⟩) [x, y, z] := by
  subst hg
  intro j hj
  match j, hj with
  | 0, _ => exact ⟨_, _, rfl, by simp, by simp⟩
  | 1, _ => exact ⟨_, _, rfl, by simp, by simp⟩
  | 2, _ => exact ⟨_, _, rfl, by simp, by simp⟩

theorem intV_snoc (l : List Int) (a : Int) : intV (l ++ [a]) = intV l ++ [.int .i64 a] := by simp [intV]
theorem lOwn_ints {base : Nat} {v : Value} {l : List Int} {w : World} (h : w.ownsRow base 2 1 v l.length (intV l)) : ∃ ad cap, v = .slice ad l.length cap ∧ l.length ≤ cap ∧ IntsAt w ad l := by
  have hcell := fun g (hg : v.ownBlock = some g) => h.cells hg
  have hlt := h.lt
  obtain ⟨_, ⟨rfl, h0⟩ | ⟨g, cap, cur, rfl, hx⟩⟩ := h
  · have : l = [] := List.length_eq_zero_iff.1 h0
    subst this
    exact ⟨none, 0, rfl, by simp, fun j hj => absurd hj (by simp)⟩
  · refine ⟨some ⟨g, 0, none⟩, cap, rfl, hx.2.2.1, ?_⟩
    intro j hj
    refine ⟨g, 0, rfl, (hlt g rfl).2, ?_⟩
    have := hcell g rfl j (.int .i64 l[j]) (by simp [intV, hj])
    rw [Addr.add_lit] at this
    simpa using this
theorem infoI64 : (Try.prog.info? 2).map (fun i => (i.zero, i.size, i.bytes)) = some (some (.int .i64 0), 1, 8) := by kernel_rfl
end Go.Proofs.Ythfbpilfdfploaa
namespace Go.Proofs.Ythfbpilfdfploaa
open Go.RowKit

/- a struct of three cells in memory that may be written -/
theorem BoxAt.set3 {w : World} {g : Nat} {a b c : Value} (h : BoxAt w g a b c) (x y z : Value) :
    BoxAt (((w.setCell ⟨g, 0, none⟩ x).setCell ⟨g, 1, none⟩ y).setCell ⟨g, 2, none⟩ z) g x y z := by
  obtain ⟨h0, h1, h2, f0, f1, f2, hl⟩ := h
  exact ⟨by simp [go_sem, *], by simp [go_sem, *], by simp [go_sem, *], by simp [go_sem, *], by simp [go_sem, *], by simp [go_sem, *], by simpa using hl⟩

/- a struct of three cells that may be written, whatever it holds -/
def RoomAt (w : World) (g : Nat) : Prop := ∃ a b c, BoxAt w g a b c
theorem RoomAt.gr {w w' : World} {g : Nat} (h : RoomAt w g) (k : Gr w w') : RoomAt w' g := by
  obtain ⟨a, b, c, h⟩ := h
  exact ⟨a, b, c, h.gr k⟩
theorem RoomAt.drew {w : World} {g : Nat} (h : RoomAt w g) : RoomAt w.drew g := h.gr (Gr.refl _).drew
theorem RoomAt.new (w : World) (a b c : Value) (t : TypeId) (g : Nat) (hg : g = w.heap.size) : RoomAt (w.alloc (.cells #[a, b, c] t)) g := ⟨a, b, c, BoxAt.new w a b c t g hg⟩
theorem RoomAt.set3 {w : World} {g : Nat} (h : RoomAt w g) (x y z : Value) : RoomAt (((w.setCell ⟨g, 0, none⟩ x).setCell ⟨g, 1, none⟩ y).setCell ⟨g, 2, none⟩ z) g := by
  obtain ⟨a, b, c, h⟩ := h
  exact ⟨x, y, z, h.set3 x y z⟩
end Go.Proofs.Ythfbpilfdfploaa
namespace Go.Proofs.Ythfbpilfdfploaa
open Go.RowKit

theorem step_append_own {P : Program} {w : World} {ops : Array Oper} {o : Oper} {a : Act} {K : Act → World → Prop} {Q : Exit → Act → World → Prop} {E : Prop} (hgd : o.guard = none) (s x : Operand) (t : TypeId)
    (ho : o.op = .call { callee := .builtin .append, args := #[s, x], argTypes := #[t, t] })
    (base : Nat) (e : TypeId) (i : TypeInfo) (z : Value) (size bytes : Nat) (ht : P.underlying t = some (.slice e)) (hi : P.info? e = some i) (hz : i.zero = some z)
    (hsize : i.size = size) (hby : i.bytes = bytes) (hzs : z.cells.size = size) (hsz : 0 < size)
    (v : Value) (n : Nat) (xs : List Value) (hs : a.eval s = v) (hown : w.ownsRow base e size v n xs)
    (ad : Addr) (m c : Nat) (news : List Value) (hx : a.eval x = .slice (some ad) m c) (hl : news.length = m * size) (hnews : ∀ j u, news[j]? = some u → w.cell? (ad.add j) = some u) (h1 : ∀ u ∈ news, u.oneCell' = true)
    (h63 : n + m ≤ maxLen) (hbytes : (n + m) * bytes ≤ 140737488355328) (hbase : base ≤ w.heap.size)
    (h : ∀ v' w', w'.ownsRow base e size v' (n + m) (xs ++ news) → w.grownBy w' v.ownBlock → (v' = .slice none 0 0 ↔ v = .slice none 0 0 ∧ m = 0) → K (a.put o.dst v') w') :
    if Region.wanted o (yielded ops a.tmps) = true then Oper.wp P o a w K Q else E := by
  have hw : Region.wanted o (yielded ops a.tmps) = true := by simp [Region.wanted, hgd]
  rw [if_pos hw]
  exact wp_append_own w s x t ho base e i z size bytes ht hi hz hsize hby hzs hsz v n xs hs hown ad m c news hx hl hnews h1 h63 hbytes hbase h

theorem own_low {w : World} {base base' : Nat} {e : TypeId} {size n : Nat} {v : Value} {xs : List Value} (h : w.ownsRow base e size v n xs) (hb : base' ≤ base) : w.ownsRow base' e size v n xs := by
  obtain ⟨h1, ⟨rfl, h2⟩ | ⟨g, cap, cur, rfl, h3, h4⟩⟩ := h
  · exact ⟨h1, Or.inl ⟨rfl, h2⟩⟩
  · exact ⟨h1, Or.inr ⟨g, cap, cur, rfl, Nat.le_trans hb h3, h4⟩⟩
theorem Gr.grown {a b c : World} (h : Gr a b) {r : Option Nat} (k : b.grownBy c r) (hr : ∀ g, r = some g → a.heap.size ≤ g) : Gr a c := ⟨h.below.grown k h.below.size hr⟩
theorem hold8 {a b : World} (g : Gr a b) {q0 q1 q2 q3 r0 r1 r2 r3 : Addr} {v0 v1 v2 v3 u0 u1 u2 u3 : Value} (h0 : a.cell? q0 = some v0) (h1 : a.cell? q1 = some v1) (h2 : a.cell? q2 = some v2) (h3 : a.cell? q3 = some v3) (k0 : a.cell? r0 = some u0) (k1 : a.cell? r1 = some u1) (k2 : a.cell? r2 = some u2) (k3 : a.cell? r3 = some u3) :
    Gr a b ∧ b.cell? q0 = some v0 ∧ b.cell? q1 = some v1 ∧ b.cell? q2 = some v2 ∧ b.cell? q3 = some v3 ∧ b.cell? r0 = some u0 ∧ b.cell? r1 = some u1 ∧ b.cell? r2 = some u2 ∧ b.cell? r3 = some u3 := ⟨g, g.keep h0, g.keep h1, g.keep h2, g.keep h3, g.keep k0, g.keep k1, g.keep k2, g.keep k3⟩
end Go.Proofs.Ythfbpilfdfploaa
namespace Go.Proofs.Ythfbpilfdfploaa
open Go.RowKit

/- a row of structs in memory, cell by cell, its address whatever where there is none -/
def RowAt {α : Type} (f : α → List Value) (w : World) (ad : Option Addr) (L : List α) : Prop :=
  ∀ j u, (L.flatMap f)[j]? = some u → ∃ b off, ad = some ⟨b, off, none⟩ ∧ b < w.heap.size ∧ w.cell? ⟨b, off + j, none⟩ = some u
theorem flat_len {α : Type} {f : α → List Value} {c : Nat} (hc : ∀ x, (f x).length = c) (L : List α) : (L.flatMap f).length = L.length * c := by
  induction L with
  | nil => simp
  | cons x t ih => rw [List.flatMap_cons, List.length_append, ih, hc, List.length_cons, Nat.add_mul]; omega
theorem flat_get {α : Type} {f : α → List Value} {c : Nat} (hc : ∀ x, (f x).length = c) (L : List α) : ∀ j (h : j < L.length) i, i < c → (L.flatMap f)[j * c + i]? = (f L[j])[i]? := by
  induction L with
  | nil => intro j h; simp at h
  | cons x t ih =>
    intro j h i hi
    rw [List.flatMap_cons]
    cases j with
    | zero => rw [Nat.zero_mul, Nat.zero_add, List.getElem?_append_left (by rw [hc]; exact hi)]; rfl
    | succ j =>
      rw [Nat.add_mul, Nat.one_mul, List.getElem?_append_right (by rw [hc]; omega), hc, show j * c + c + i - c = j * c + i by omega, ih j (by simpa using h) i hi]; rfl
theorem RowAt.gr {α : Type} {f : α → List Value} {w w' : World} {ad : Option Addr} {L : List α} (h : RowAt f w ad L) (g : Gr w w') : RowAt f w' ad L := by
  intro j u hu
  obtain ⟨b, off, e, hb, h1⟩ := h j u hu
  exact ⟨b, off, e, Nat.lt_of_lt_of_le hb g.size, g.keep h1⟩
theorem RowAt.alloc {α : Type} {f : α → List Value} {w : World} {ad : Option Addr} {L : List α} (h : RowAt f w ad L) {o : Obj} : RowAt f (w.alloc o) ad L := h.gr (Gr.refl _).alloc
theorem RowAt.drew {α : Type} {f : α → List Value} {w : World} {ad : Option Addr} {L : List α} (h : RowAt f w ad L) : RowAt f w.drew ad L := h.gr (Gr.refl _).drew
theorem RowAt.nil {α : Type} {f : α → List Value} {w : World} {ad : Option Addr} : RowAt f w ad [] := fun j u h => by simp at h
theorem RowAt.setFar {α : Type} {f : α → List Value} {w : World} {ad : Option Addr} {L : List α} (h : RowAt f w ad L) (p : Addr) (v : Value) (hp : ∀ a, ad = some a → p.block ≠ a.block) : RowAt f (w.setCell p v) ad L := by
  intro j u hu
  obtain ⟨b, off, e, hb, h1⟩ := h j u hu
  exact ⟨b, off, e, by simpa using hb, by rw [World.cell?_setCell_far _ _ _ _ (by simpa using hp _ e)]; exact h1⟩
theorem RowAt.news {α : Type} {f : α → List Value} {w : World} {a : Addr} {L : List α} (h : RowAt f w (some a) L) : ∀ j u, (L.flatMap f)[j]? = some u → w.cell? (a.add j) = some u := by
  intro j u hu
  obtain ⟨b, off, e, _, h1⟩ := h j u hu
  cases e
  rw [Addr.add_lit]; exact h1
theorem RowAt.none {α : Type} {f : α → List Value} {c : Nat} (hc : ∀ x, (f x).length = c) (h0 : 0 < c) {w : World} {L : List α} (h : RowAt f w none L) : L = [] := by
  cases L with
  | nil => rfl
  | cons x t =>
    have hl := flat_len hc (x :: t)
    have : 0 < ((x :: t).flatMap f).length := by rw [hl, List.length_cons]; exact Nat.mul_pos (by omega) h0
    obtain ⟨b, off, e, _⟩ := h 0 _ (List.getElem?_eq_getElem this)
    cases e
/- a row that the call owns -/
theorem own_row {α : Type} {f : α → List Value} {c : Nat} {base : Nat} {t : TypeId} {v : Value} {L : List α} {w : World} (h : w.ownsRow base t c v L.length (L.flatMap f)) :
    ∃ ad cap, v = .slice ad L.length cap ∧ L.length ≤ cap ∧ cap ≤ 9223372036854775807 ∧ RowAt f w ad L ∧ (∀ a, ad = some a → base ≤ a.block) ∧ (ad = none → cap = 0) := by
  have hcell := fun g (hg : v.ownBlock = some g) => h.cells hg
  have hlt := h.lt
  obtain ⟨_, ⟨rfl, h0⟩ | ⟨g, cap, cur, rfl, hx⟩⟩ := h
  · have : L = [] := List.length_eq_zero_iff.1 h0
    subst this
    exact ⟨none, 0, rfl, by simp, by omega, RowAt.nil, (fun a e => by cases e), fun _ => rfl⟩
  · have hm : cap ≤ 9223372036854775807 := by have := hx.2.2.2.1; unfold maxLen at this; omega
    refine ⟨some ⟨g, 0, none⟩, cap, rfl, hx.2.2.1, hm, ?_, (fun a e => by cases e; exact (hlt g rfl).1), fun e => by cases e⟩
    intro j u hu
    have c1 := hcell g rfl _ _ hu
    rw [Addr.add_lit] at c1
    exact ⟨g, 0, rfl, (hlt g rfl).2, c1⟩

end Go.Proofs.Ythfbpilfdfploaa
namespace Go.Proofs.Ythfbpilfdfploaa
open Go.RowKit

/- nothing has turned but one block -/
structure GB (b : Nat) (w w' : World) : Prop where
  g : w.grownBy w' (some b)
theorem GB.ofGr {b : Nat} {w w' : World} (g : Gr w w') : GB b w w' := ⟨⟨g.below.os, g.below.tape, g.below.output, g.size, fun k hk _ => g.below.block k hk⟩⟩
theorem GB.refl (b : Nat) (w : World) : GB b w w := GB.ofGr (Gr.refl _)
theorem GB.size {b : Nat} {w w' : World} (h : GB b w w') : w.heap.size ≤ w'.heap.size := h.g.size
theorem GB.trans {b : Nat} {u v w : World} (h : GB b u v) (k : GB b v w) : GB b u w := by
  have hs := h.size
  refine ⟨⟨?_, ?_, ?_, Nat.le_trans h.size k.size, ?_⟩⟩
  · exact k.g.os.trans h.g.os
  · exact k.g.tape.trans h.g.tape
  · exact k.g.output.trans h.g.output
  · intro i hi hne
    exact (k.g.block i (by omega) hne).trans (h.g.block i hi hne)
theorem GB.alloc {b : Nat} {a w : World} (h : GB b a w) {o : Obj} : GB b a (w.alloc o) := h.trans (GB.ofGr (Gr.refl _).alloc)
theorem GB.drew {b : Nat} {a w : World} (h : GB b a w) : GB b a w.drew := h.trans (GB.ofGr (Gr.refl _).drew)
theorem GB.gr {b : Nat} {a w w' : World} (h : GB b a w) (g : Gr w w') : GB b a w' := h.trans (GB.ofGr g)
theorem GB.setNew {b : Nat} {a w : World} (h : GB b a w) (p : Addr) (v : Value) (hp : a.heap.size ≤ p.block ∨ p.block = b) : GB b a (w.setCell p v) :=
  ⟨⟨h.g.os, h.g.tape, h.g.output, by simpa [World.setCell] using h.size, fun k hk hne => (Below.heap_setCell _ _ _ _ (fun e => by
    rcases hp with hp | hp
    · omega
    · exact hne (by rw [e, hp]))).trans (h.g.block k hk hne)⟩⟩
theorem GB.keep {b : Nat} {w w' : World} (h : GB b w w') {g o : Nat} {v : Value} (hg : g < w.heap.size) (hne : g ≠ b) (hc : w.cell? ⟨g, o, none⟩ = some v) : w'.cell? ⟨g, o, none⟩ = some v := by
  rw [← hc]; exact World.cell?_of_block (w := w) (h.g.block g hg (by simp; omega))
theorem GB.keepF {b : Nat} {w w' : World} (h : GB b w w') {g o : Nat} {v : Bool} (hg : g < w.heap.size) (hne : g ≠ b) (hc : w.frozen? ⟨g, o, none⟩ = v) : w'.frozen? ⟨g, o, none⟩ = v := by
  rw [← hc]; exact World.frozen?_of_block (w := w) (h.g.block g hg (by simp; omega))
theorem Gr.gb {b : Nat} {a w w' : World} (g : Gr a w) (h : GB b w w') (hb : a.heap.size ≤ b) : Gr a w' := ⟨g.below.grown h.g g.size (fun k e => by cases e; exact hb)⟩
end Go.Proofs.Ythfbpilfdfploaa
