/- Parts of these proofs, laid together. -/
import Derived.Test.YtojmhhmpmpbpfaaGreatDoorProg
import Derived.WalkKit
import Derived.WalkSpells
import Derived.WalkLawsBesides
import Derived.Laws.IdiomStrings
import Derived.Lib.UnsafeStr
import Derived.KernelRfl
import Derived.Deep.RegionWith
import Derived.Deep.DrawnRows
import Derived.Laws.OwnMore
import Derived.Maps.AppendAt
import Derived.Test.YtojmhhmpmpbpfaaGreatDoorShelf
import Derived.Laws.Bits64
import Derived.Test.YtojmhhmpmpbpfaaGreatDoorRows
import Derived.Test.YtojmhhmpmpbpfaaGreatDoorTie
import Derived.Test.YtojmhhmpmpbpfaaGreatDoorCards
import Derived.ProofKit
import Derived.LaidMore
import Derived.OpenShut
import Derived.Stop.Joined
import Derived.Lib.LaidTab
import Derived.ShutString
import Derived.SizedLaws
namespace Sl

def poly : Nat := 14514072000185962306
def z (r : Nat) : Nat := (r / 2) ^^^ (if r % 2 = 1 then poly else 0)
def zs : Nat → Nat → Nat
  | 0, r => r
  | n + 1, r => zs n (z r)
def crc (r : Nat) (l : List UInt8) : Nat := l.foldl (fun r b => zs 8 (r ^^^ b.toNat)) r
def ones : Nat := 18446744073709551615
def sum (l : List UInt8) : Nat := ones - crc ones l

theorem half_xor (a b : Nat) : (a ^^^ b) / 2 = (a / 2) ^^^ (b / 2) := by
  have := Nat.shiftRight_xor_distrib (i := 1) (a := a) (b := b)
  simpa [Nat.shiftRight_succ] using this
theorem odd_xor (a b : Nat) : (a ^^^ b) % 2 = (a % 2) ^^^ (b % 2) := by
  simpa using Nat.xor_mod_two_pow (n := 1) (a := a) (b := b)
theorem z_xor (a b : Nat) : z (a ^^^ b) = z a ^^^ z b := by
  unfold z
  rw [half_xor, odd_xor]
  rcases Nat.mod_two_eq_zero_or_one a with ha | ha <;> rcases Nat.mod_two_eq_zero_or_one b with hb | hb <;> simp [ha, hb]
  · ac_rfl
  · ac_rfl
  · have : ∀ x y p : Nat, x ^^^ y = x ^^^ p ^^^ (y ^^^ p) := by
      intro x y p
      have e : x ^^^ p ^^^ (y ^^^ p) = x ^^^ y ^^^ (p ^^^ p) := by ac_rfl
      rw [e]; simp
    exact this _ _ _
theorem zs_xor (n : Nat) : ∀ a b, zs n (a ^^^ b) = zs n a ^^^ zs n b := by
  induction n with
  | zero => intro a b; rfl
  | succ n ih => intro a b; rw [zs, zs, zs, z_xor, ih]
theorem z_two (x : Nat) : z (2 * x) = x := by unfold z; simp
theorem zs_pow (n : Nat) : ∀ x, zs n (2 ^ n * x) = x := by
  induction n with
  | zero => intro x; simp [zs]
  | succ n ih =>
    intro x
    have e : 2 ^ (n + 1) * x = 2 * (2 ^ n * x) := by rw [Nat.pow_succ]; ac_rfl
    rw [zs, e, z_two, ih]
theorem zs_succ (n r : Nat) : zs (n + 1) r = z (zs n r) := by
  induction n generalizing r with
  | zero => rfl
  | succ n ih => rw [zs, ih]; rfl
theorem zs_add (m n r : Nat) : zs (m + n) r = zs n (zs m r) := by
  induction n generalizing r with
  | zero => rfl
  | succ n ih => rw [← Nat.add_assoc, zs_succ, ih, zs_succ]
theorem z_zero : z 0 = 0 := by decide
theorem zs_zero (n : Nat) : zs n 0 = 0 := by
  induction n with
  | zero => rfl
  | succ n ih => rw [zs, z_zero, ih]
theorem z_lt (r : Nat) (h : r < 18446744073709551616) : z r < 18446744073709551616 := by
  unfold z
  refine Nat.xor_lt_two_pow (n := 64) (by omega) ?_
  split <;> decide
theorem zs_lt (n r : Nat) (h : r < 18446744073709551616) : zs n r < 18446744073709551616 := by
  induction n generalizing r with
  | zero => exact h
  | succ n ih => exact ih _ (z_lt r h)
theorem crc_lt (l : List UInt8) : ∀ r, r < 18446744073709551616 → crc r l < 18446744073709551616 := by
  induction l with
  | nil => intro r h; exact h
  | cons b l ih =>
    intro r h
    exact ih _ (zs_lt 8 _ (Nat.xor_lt_two_pow (n := 64) h (by have := b.toNat_lt; omega)))
theorem sum_lt (l : List UInt8) : sum l < 18446744073709551616 := by unfold sum ones; omega
theorem crc_append (r : Nat) (a b : List UInt8) : crc r (a ++ b) = crc (crc r a) b := by simp [crc]
theorem crc_snoc (r : Nat) (a : List UInt8) (b : UInt8) : crc r (a ++ [b]) = zs 8 (crc r a ^^^ b.toNat) := by simp [crc]

/- what stands low and what stands high do not meet -/
theorem high_low (i a b : Nat) (h : b < 2 ^ i) : (2 ^ i * a) ^^^ b = 2 ^ i * a + b := by
  apply Nat.eq_of_testBit_eq
  intro j
  rw [Nat.testBit_xor, Nat.testBit_two_pow_mul_add a h, Nat.testBit_two_pow_mul]
  by_cases hj : j < i
  · simp [hj, Nat.not_le.2 hj]
  · have hb : b.testBit j = false := Nat.testBit_lt_two_pow (Nat.lt_of_lt_of_le h (Nat.pow_le_pow_right (by omega) (by omega)))
    simp [hj, hb, Nat.le_of_not_lt hj]

theorem round_about (x : Nat) (h : x < 2 ^ 64) : (2 ^ 64 - 1) ^^^ x = 2 ^ 64 - 1 - x := by
  apply Nat.eq_of_testBit_eq
  intro j
  have e : 2 ^ 64 - 1 - x = 2 ^ 64 - (x + 1) := by omega
  rw [Nat.testBit_xor, e, Nat.testBit_two_pow_sub_succ h, Nat.testBit_two_pow_sub_one]
  by_cases hj : j < 64
  · simp [hj]
  · have hb : x.testBit j = false := Nat.testBit_lt_two_pow (Nat.lt_of_lt_of_le h (Nat.pow_le_pow_right (by omega) (by omega)))
    simp [hj, hb]

/- four steps at once, by a table -/
def table : List Int := [0, 9051005139383707209, 18102010278767414418, 9704381199536204507, 7257036000092981153, 1814259000023245288, 11493583972846619443, 16292555063049989498, 14514072000185962306, 13040162471224305931, 3628518000046490576, 5746791986423309721, 12527462061959317731, 15006518869663149738, 6263731030979658865, 3131865515489829432]
theorem table_len : table.length = 16 := by decide
theorem table_at : ∀ j, j < 16 → table.getD j 0 = ((zs 4 j : Nat) : Int) := by decide +kernel
theorem four (r : Nat) : zs 4 r = (r / 16) ^^^ zs 4 (r % 16) := by
  have e : r = (2 ^ 4 * (r / 16)) ^^^ (r % 16) := by
    rw [high_low 4 (r / 16) (r % 16) (by omega)]; omega
  have := zs_xor 4 (2 ^ 4 * (r / 16)) (r % 16)
  rw [← e, zs_pow] at this
  exact this
theorem eight_four (r : Nat) : zs 8 r = zs 4 (zs 4 r) := zs_add 4 4 r

/- bit by bit -/
theorem z_bit (r b : Nat) (hb : b < 2) : z (r ^^^ b) = (r / 2) ^^^ (if r % 2 ≠ b then poly else 0) := by
  unfold z
  have hb2 : b = 0 ∨ b = 1 := by omega
  rw [half_xor, odd_xor]
  rcases hb2 with rfl | rfl <;> rcases Nat.mod_two_eq_zero_or_one r with h | h <;> simp [h]
theorem low_more (c j : Nat) : c % 2 ^ (j + 1) = (2 ^ j * (c / 2 ^ j % 2)) ^^^ (c % 2 ^ j) := by
  rw [high_low j _ _ (Nat.mod_lt _ (Nat.two_pow_pos j)), Nat.pow_succ, Nat.mod_mul]
  omega
theorem zs_bit (r c j : Nat) : zs (j + 1) (r ^^^ (c % 2 ^ (j + 1))) = z (zs j (r ^^^ (c % 2 ^ j)) ^^^ (c / 2 ^ j % 2)) := by
  rw [low_more, zs_succ]
  have e : r ^^^ (2 ^ j * (c / 2 ^ j % 2) ^^^ c % 2 ^ j) = (r ^^^ c % 2 ^ j) ^^^ (2 ^ j * (c / 2 ^ j % 2)) := by ac_rfl
  rw [e, zs_xor, zs_pow]
end Sl
namespace Pk

def numF : Nat → Nat → List UInt8
  | 0, n => [UInt8.ofNat n]
  | f + 1, n => if n < 128 then [UInt8.ofNat n] else UInt8.ofNat (n % 128 + 128) :: numF f (n / 128)
def num (n : Nat) : List UInt8 := numF 9 n

theorem numF_lt (f n : Nat) (h : n < 128) : numF f n = [UInt8.ofNat n] := by
  cases f with
  | zero => rfl
  | succ f => simp [numF, h]
theorem numF_ge (f n : Nat) (h : ¬ n < 128) : numF (f + 1) n = UInt8.ofNat (n % 128 + 128) :: numF f (n / 128) := by
  simp [numF, h]
theorem numF_len (f n : Nat) : 1 ≤ (numF f n).length ∧ (numF f n).length ≤ f + 1 := by
  induction f generalizing n with
  | zero => simp [numF]
  | succ f ih =>
    by_cases h : n < 128
    · simp [numF, h]
    · have := ih (n / 128)
      simp [numF, h]; omega
theorem num_len (n : Nat) : 1 ≤ (num n).length ∧ (num n).length ≤ 10 := numF_len 9 n
/- the fuel is of no matter where it suffices -/
theorem numF_fuel (f g n : Nat) (hf : n < 128 ^ (f + 1)) (hg : n < 128 ^ (g + 1)) : numF f n = numF g n := by
  induction f generalizing g n with
  | zero => rw [numF_lt 0 n (by simpa using hf), numF_lt g n (by simpa using hf)]
  | succ f ih =>
    by_cases h : n < 128
    · rw [numF_lt _ n h, numF_lt _ n h]
    · cases g with
      | zero => simp at hg; omega
      | succ g =>
        rw [numF_ge f n h, numF_ge g n h, ih g (n / 128)]
        · rw [Nat.pow_succ] at hf; omega
        · rw [Nat.pow_succ] at hg; omega

/- a number that may be below 0, as one that is not -/
def sgn (m : Int) : Nat := if 0 ≤ m then 2 * m.toNat else 2 * (-(m + 1)).toNat + 1
theorem sgn_lt (m : Int) (h0 : -9223372036854775808 ≤ m) (h1 : m < 9223372036854775808) : sgn m < 18446744073709551616 := by
  unfold sgn; split <;> omega
theorem sgn_pos (m : Int) (h : 0 ≤ m) : (sgn m : Int) = m * 2 := by unfold sgn; rw [if_pos h]; omega
theorem sgn_neg (m : Int) (h : ¬ 0 ≤ m) : (sgn m : Int) = -(m + 1) * 2 + 1 := by unfold sgn; rw [if_neg h]; omega

/- taking a number: its value, how many bytes it is, the error -/
def takeF : Nat → Nat → Nat → List UInt8 → Nat × Nat × Nat
  | 0, _, _, _ => (0, 0, 11)
  | _ + 1, _, _, [] => (0, 0, 10)
  | f + 1, i, a, b :: r =>
    if 128 ≤ b.toNat then takeF f (i + 1) (a + b.toNat % 128 * 128 ^ i) r
    else if (i = 9 ∧ 1 < b.toNat) ∨ (i ≠ 0 ∧ b.toNat = 0) then (0, 0, 11)
    else (a + b.toNat * 128 ^ i, i + 1, 0)
def take (l : List UInt8) : Nat × Nat × Nat := takeF 10 0 0 l
def takeNum (s : List UInt8) (p : Int) : Nat × Nat × Nat :=
  if 0 ≤ p ∧ p ≤ s.length then ((take (s.drop p.toNat)).1, if (take (s.drop p.toNat)).2.2 = 0 then p.toNat + (take (s.drop p.toNat)).2.1 else 0, (take (s.drop p.toNat)).2.2) else (0, 0, 2)

theorem takeF_spec (f : Nat) : ∀ (i a : Nat) (l : List UInt8), f + i = 10 → a < 128 ^ i →
    ((takeF f i a l).2.2 = 0 ∧ (takeF f i a l).1 < 18446744073709551616 ∧ i + 1 ≤ (takeF f i a l).2.1 ∧ (takeF f i a l).2.1 ≤ i + l.length) ∨
    takeF f i a l = (0, 0, 10) ∨ takeF f i a l = (0, 0, 11) := by
  induction f with
  | zero => intro i a l _ _; right; right; simp [takeF]
  | succ f ih =>
    intro i a l hi ha
    cases l with
    | nil => right; left; simp [takeF]
    | cons b r =>
      have hb : b.toNat < 256 := b.toNat_lt
      rw [takeF]
      split
      · rename_i hge
        have hm : b.toNat % 128 ≤ 127 := by omega
        have := ih (i + 1) (a + b.toNat % 128 * 128 ^ i) r (by omega) (by
          have := Nat.mul_le_mul_right (128 ^ i) hm
          rw [Nat.pow_succ]; omega)
        rcases this with ⟨h1, h2, h3, h4⟩ | h | h
        · left; refine ⟨h1, h2, by omega, ?_⟩; simp; omega
        · right; left; exact h
        · right; right; exact h
      · split
        · right; right; rfl
        · rename_i hlt hl
          left
          refine ⟨rfl, ?_, Nat.le_refl _, by simp⟩
          by_cases h9 : i = 9
          · subst h9
            have hb1 : b.toNat ≤ 1 := by omega
            have := Nat.mul_le_mul_right (128 ^ 9) hb1
            simp only at *
            omega
          · have hb1 : b.toNat ≤ 127 := by omega
            have h1 := Nat.mul_le_mul_right (128 ^ i) hb1
            have h2 : 128 ^ (i + 1) ≤ 128 ^ 9 := Nat.pow_le_pow_right (by omega) (by omega)
            rw [Nat.pow_succ] at h2
            simp only at *
            omega
theorem take_spec (l : List UInt8) :
    ((take l).2.2 = 0 ∧ (take l).1 < 18446744073709551616 ∧ 1 ≤ (take l).2.1 ∧ (take l).2.1 ≤ l.length) ∨ take l = (0, 0, 10) ∨ take l = (0, 0, 11) := by
  have := takeF_spec 10 0 0 l rfl (by simp)
  simpa [take] using this
theorem takeNum_spec (s : List UInt8) (p : Int) :
    ((takeNum s p).2.2 = 0 ∧ (takeNum s p).1 < 18446744073709551616 ∧ 0 ≤ p ∧ p < (takeNum s p).2.1 ∧ (takeNum s p).2.1 ≤ s.length) ∨
    takeNum s p = (0, 0, 2) ∨ takeNum s p = (0, 0, 10) ∨ takeNum s p = (0, 0, 11) := by
  unfold takeNum
  by_cases hp : 0 ≤ p ∧ p ≤ s.length
  · rw [if_pos hp]
    rcases take_spec (s.drop p.toNat) with ⟨h1, h2, h3, h4⟩ | h | h
    · left
      rw [List.length_drop] at h4
      simp only [h1, if_true]
      refine ⟨trivial, h2, hp.1, ?_, ?_⟩ <;> omega
    · right; right; left; rw [h]; simp
    · right; right; right; rw [h]; simp
  · rw [if_neg hp]; right; left; rfl
def unsg (n : Nat) : Int := if n % 2 = 0 then ((n / 2 : Nat) : Int) else -((n / 2 : Nat) : Int) - 1

/- texts, one behind the other, each behind its length -/
def text (s : List UInt8) : List UInt8 := num s.length ++ s
def body (l : List ByteArray) : List UInt8 := l.flatMap fun s => text s.data.toList
def texts (l : List ByteArray) : List UInt8 := num l.length ++ body l
theorem body_snoc (l : List ByteArray) (s : ByteArray) : body (l ++ [s]) = body l ++ text s.data.toList := by simp [body]
theorem body_take_le (l : List ByteArray) (k : Nat) : (body (l.take k)).length ≤ (body l).length := by
  have : body l = body (l.take k) ++ body (l.drop k) := by
    have e : body (l.take k ++ l.drop k) = body (l.take k) ++ body (l.drop k) := by simp only [body, List.flatMap_append]
    rwa [List.take_append_drop] at e
  rw [this]; simp

end Pk
namespace Go.Proofs.YtojmhhmpmpbpfaaGreatDoor
open Go.RowKit

structure Gr (w w' : World) : Prop where
  below : Below w.heap.size w w'
theorem Gr.refl (w : World) : Gr w w := ⟨Below.refl _ _⟩
theorem Gr.trans {a b c : World} (h : Gr a b) (k : Gr b c) : Gr a c := ⟨h.below.trans (k.below.mono h.below.size)⟩
theorem Gr.alloc {a b : World} (h : Gr a b) {o : Obj} : Gr a (b.alloc o) := ⟨h.below.alloc h.below.size _⟩
theorem Gr.drew {a b : World} (h : Gr a b) : Gr a b.drew := ⟨h.below.drew⟩
theorem Gr.r (w : World) : Gr w w := Gr.refl w
theorem Gr.a {a b : World} (h : Gr a b) {o : Obj} : Gr a (b.alloc o) := h.alloc
theorem Gr.d {a b : World} (h : Gr a b) : Gr a b.drew := h.drew
theorem Gr.t {a b c : World} (h : Gr a b) (k : Gr b c) : Gr a c := h.trans k
theorem Gr.size {a b : World} (h : Gr a b) : a.heap.size ≤ b.heap.size := h.below.size
theorem Gr.cells {W w1 : World} (h : Gr W w1) : (∀ b o, b < W.heap.size → w1.cell? ⟨b, o, none⟩ = W.cell? ⟨b, o, none⟩) ∧ (∀ b o, b < W.heap.size → w1.frozen? ⟨b, o, none⟩ = W.frozen? ⟨b, o, none⟩) :=
  ⟨fun b o hb => h.below.cell (p := ⟨b, o, none⟩) hb, fun b o hb => h.below.frozen (p := ⟨b, o, none⟩) hb⟩
theorem Gr.of {w w' : World} (h : Below w.heap.size w w') : Gr w w' := ⟨h⟩

theorem w64 (n : Int) (h0 : 0 ≤ n) (h1 : n < 18446744073709551616) : IntKind.u64.wrap n = n := by rw [IntKind.wrap_u64]; omega
theorem w8 (n : Int) (h0 : 0 ≤ n) (h1 : n < 256) : IntKind.u8.wrap n = n := by rw [IntKind.wrap_u8]; omega

theorem info5 : (Tryz.prog.info? 5).map (fun i => (i.zero, i.size, i.bytes)) = some (some (.int .u8 0), 1, 1) := by kernel_rfl

/- a row of bytes that the call owns, made a string -/
theorem own_string {base : Nat} {v : Value} {n : Nat} {l : List UInt8} {w : World} (h : w.ownsRow base 5 1 v n (Lib.byteCells l)) (hl : l ≠ []) :
    (convert 123 9 v).run Tryz.prog w = .ok (.string ⟨l.toArray⟩) w := by
  have hcell := fun g (hg : v.ownBlock = some g) => h.cells hg
  obtain ⟨hlen, hv | ⟨g, cap, cur, rfl, _⟩⟩ := h
  · obtain ⟨_, rfl⟩ := hv
    simp [Lib.byteCells] at hlen
    exact absurd hlen hl
  · have e : n = l.length := by simpa [Lib.byteCells] using hlen.symm
    subst e
    refine run_convert_bytes_back w 123 9 5 ⟨g, 0, none⟩ cap l Tryz.underlying123 Tryz.underlying5 Tryz.underlying9 ?_
    intro j hj
    exact hcell g rfl j _ (by simp [Lib.byteCells, hj])

theorem byteCells_snoc (l : List UInt8) (b : UInt8) : Lib.byteCells (l ++ [b]) = Lib.byteCells l ++ [.int .u8 (b.toNat : Int)] := by simp [Lib.byteCells]

/- one byte in a block, made a string -/
theorem conv1 (w : World) (b : Nat) (x : Nat) (hx : x < 256) (h : w.cell? ⟨b, 0, none⟩ = some (.int .u8 (x : Int))) :
    (convert 123 9 (.slice (some ⟨b, 0, none⟩) 1 1)).run Tryz.prog w = .ok (.string ⟨#[UInt8.ofNat x]⟩) w := by
  have := run_convert_bytes_back (P := Tryz.prog) w 123 9 5 ⟨b, 0, none⟩ 1 [UInt8.ofNat x] Tryz.underlying123 Tryz.underlying5 Tryz.underlying9 (by
    intro j hj
    simp at hj; subst hj
    simpa [Addr.add, Nat.mod_eq_of_lt hx] using h)
  simpa using this

/- two strings joined -/
theorem add_lists (x y : List UInt8) (h : x.length + y.length ≤ 9223372036854775807) (w : World) : (Op.stringOp .add ⟨x.toArray⟩ ⟨y.toArray⟩).run Tryz.prog w = .ok (.string ⟨(x ++ y).toArray⟩) w := by
  rw [run_string_add_sum w _ _ (by simpa [ByteArray.size] using h), ByteArray.mk_append_mk]
end Go.Proofs.YtojmhhmpmpbpfaaGreatDoor
namespace Go.Proofs.YtojmhhmpmpbpfaaGreatDoor
open Go.RowKit

theorem Gr.grownBy {w w' : World} (h : Gr w w') : w.grownBy w' none := ⟨h.below.os, h.below.tape, h.below.output, h.below.size, fun k hk _ => h.below.block k hk⟩
theorem Gr.keep {W w1 : World} (g : Gr W w1) {p : Addr} {v : Value} (h : W.cell? p = some v) : w1.cell? p = some v :=
  (g.below.cell (World.block_lt_of_cell? W p h)).trans h

/- a row of integers in memory, its address whatever where there is none -/
def IntsAt (w : World) (ad : Option Addr) (l : List Int) : Prop :=
  ∀ j (h : j < l.length), ∃ b off, ad = some ⟨b, off, none⟩ ∧ b < w.heap.size ∧ w.cell? ⟨b, off + j, none⟩ = some (.int .i64 l[j])
theorem IntsAt.gr {w w' : World} {ad : Option Addr} {l : List Int} (h : IntsAt w ad l) (g : Gr w w') : IntsAt w' ad l := by
  intro j hj
  obtain ⟨b, off, e, hb, hc⟩ := h j hj
  exact ⟨b, off, e, Nat.lt_of_lt_of_le hb g.size, g.keep hc⟩
theorem IntsAt.take {w : World} {ad : Option Addr} {l : List Int} (h : IntsAt w ad l) (k : Nat) : IntsAt w ad (l.take k) := by
  intro j hj
  have hj' : j < l.length := by rw [List.length_take] at hj; omega
  obtain ⟨b, off, e, hb, hc⟩ := h j hj'
  exact ⟨b, off, e, hb, by rw [List.getElem_take]; exact hc⟩
theorem IntsAt.drop {w : World} {b off : Nat} {l : List Int} (h : IntsAt w (some ⟨b, off, none⟩) l) (k : Nat) : IntsAt w (some ⟨b, off + k, none⟩) (l.drop k) := by
  intro j hj
  rw [List.length_drop] at hj
  obtain ⟨b', off', e, hb, hc⟩ := h (k + j) (by omega)
  cases e
  exact ⟨b, off + k, rfl, hb, by rw [List.getElem_drop, Nat.add_assoc]; exact hc⟩
theorem IntsAt.nil {w : World} {ad : Option Addr} : IntsAt w ad [] := fun j h => absurd h (by simp)
theorem ints_lit2 (w : World) (x y : Int) (t : TypeId) (g : Nat) (hg : g = w.heap.size) : IntsAt (w.alloc (.cells #[.int .i64 x, .int .i64 y] t)) (some ⟨g, 0, none⟩) [x, y] := by
  subst hg
  intro j hj
  match j, hj with
  | 0, _ => exact ⟨_, _, rfl, by simp, by simp⟩
  | 1, _ => exact ⟨_, _, rfl, by simp, by simp⟩
theorem ints_lit3 (w : World) (x y z : Int) (t : TypeId) (g : Nat) (hg : g = w.heap.size) : IntsAt (w.alloc (.cells #[.int .i64 x, .int .i64 y, .int .i64 z] t)) (some ⟨g, 0, none⟩) [x, y, z] := by
  subst hg
  intro j hj
  match j, hj with
  | 0, _ => exact ⟨_, _, rfl, by simp, by simp⟩
  | 1, _ => exact ⟨_, _, rfl, by simp, by simp⟩
  | 2, _ => exact ⟨_, _, rfl, by simp, by simp⟩

def intV (l : List Int) : List Value := l.map fun n => Value.int .i64 n
theorem intV_snoc (l : List Int) (a : Int) : intV (l ++ [a]) = intV l ++ [.int .i64 a] := by simp [intV]
theorem own_or (v : Value) : v.ownBlock = none ∨ v.ownBlock ≠ none := by
  cases v.ownBlock with
  | none => exact Or.inl rfl
  | some q => exact Or.inr (by simp)
theorem own_ints {base : Nat} {v : Value} {l : List Int} {w : World} (h : w.ownsRow base 2 1 v l.length (intV l)) : ∃ ad cap, v = .slice ad l.length cap ∧ l.length ≤ cap ∧ IntsAt w ad l := by
  have hcell := fun g (hg : v.ownBlock = some g) => h.cells hg
  have hlt := h.lt
  obtain ⟨_, ⟨rfl, h0⟩ | ⟨g, cap, cur, rfl, hx⟩⟩ := h
  · have : l = [] := List.length_eq_zero_iff.1 h0
    subst this
    exact ⟨none, 0, rfl, by simp, fun j hj => absurd hj (by simp)⟩
  · refine ⟨some ⟨g, 0, none⟩, cap, rfl, hx.2.2.1, ?_⟩
    intro j hj
    refine ⟨g, 0, rfl, (hlt g rfl).2, ?_⟩
    have := hcell g rfl j (.int .i64 l[j]) (by simp [intV, hj])
    rw [Addr.add_lit] at this
    simpa using this
theorem infoI64 : (Tryz.prog.info? 2).map (fun i => (i.zero, i.size, i.bytes)) = some (some (.int .i64 0), 1, 8) := by kernel_rfl
end Go.Proofs.YtojmhhmpmpbpfaaGreatDoor
namespace Go.Proofs.YtojmhhmpmpbpfaaGreatDoor
open Go.RowKit

/- a row of strings in memory, its address whatever where there is none -/
def StrsAt (w : World) (ad : Option Addr) (L : List ByteArray) : Prop :=
  ∀ j (h : j < L.length), ∃ b off, ad = some ⟨b, off, none⟩ ∧ b < w.heap.size ∧ w.cell? ⟨b, off + j, none⟩ = some (.string L[j])
theorem StrsAt.gr {w w' : World} {ad : Option Addr} {L : List ByteArray} (h : StrsAt w ad L) (g : Gr w w') : StrsAt w' ad L := by
  intro j hj
  obtain ⟨b, off, e, hb, hc⟩ := h j hj
  exact ⟨b, off, e, Nat.lt_of_lt_of_le hb g.size, (g.below.cell (p := ⟨b, off + j, none⟩) hb).trans hc⟩

theorem mk_data (s : ByteArray) : (⟨s.data.toList.toArray⟩ : ByteArray) = s := by simp

theorem info9 : (Tryz.prog.info? 9).map (fun i => (i.zero, i.size, i.bytes)) = some (some (.string ⟨#[]⟩), 1, 16) := by kernel_rfl

def mkT (t : List UInt8) : ByteArray := ⟨t.toArray⟩
def strV (l : List (List UInt8)) : List Value := l.map fun t => Value.string (mkT t)
theorem strV_snoc (l : List (List UInt8)) (t : List UInt8) : strV (l ++ [t]) = strV l ++ [.string (mkT t)] := by simp [strV]

/- a row of strings that the call owns -/
theorem own_strs {base : Nat} {v : Value} {l : List (List UInt8)} {w : World} (h : w.ownsRow base 9 1 v l.length (strV l)) : ∃ ad cap, v = .slice ad l.length cap ∧ StrsAt w ad (l.map mkT) := by
  have hcell := fun g (hg : v.ownBlock = some g) => h.cells hg
  have hlt := h.lt
  obtain ⟨_, ⟨rfl, h0⟩ | ⟨g, cap, cur, rfl, _⟩⟩ := h
  · have : l = [] := List.length_eq_zero_iff.1 h0
    subst this
    exact ⟨none, 0, rfl, fun j hj => absurd hj (by simp)⟩
  · refine ⟨some ⟨g, 0, none⟩, cap, rfl, ?_⟩
    intro j hj
    have hj' : j < l.length := by simpa using hj
    refine ⟨g, 0, rfl, (hlt g rfl).2, ?_⟩
    have := hcell g rfl j (.string (mkT l[j])) (by simp [strV, hj'])
    rw [Addr.add_lit] at this
    simpa using this

theorem grownBy_block {w w' : World} {b : Nat} (h : w.grownBy w' (some b)) {k : Nat} (hk : k < w.heap.size) (hne : k ≠ b) : w'.heap[k]? = w.heap[k]? := h.block k hk (by simpa using hne)

end Go.Proofs.YtojmhhmpmpbpfaaGreatDoor
namespace Go.Proofs.YtojmhhmpmpbpfaaGreatDoor
open Go.RowKit

/- the table of seal, where the program has laid it -/
def Tab (w : World) : Prop := ∀ j, j < 16 → w.cell? ⟨0, j, none⟩ = some (.int .u64 ((Sl.zs 4 j : Nat) : Int))
theorem Tab.gr {w w' : World} (h : Tab w) (g : Gr w w') : Tab w' := fun j hj => g.keep (h j hj)

theorem step4 (y : Nat) (hy : y < 18446744073709551616) : bits .xor .u64 ((y : Int) / 16) ((Sl.zs 4 (y % 16) : Nat) : Int) = ((Sl.zs 4 y : Nat) : Int) := by
  have e : (y : Int) / 16 = ((y / 16 : Nat) : Int) := by omega
  rw [e, bits_xor_u64_nat _ _ (by omega) (Sl.zs_lt 4 _ (by omega)), Sl.four y]
theorem step1 (x c : Nat) (hx : x < 18446744073709551616) (hc : c < 256) : bits .xor .u64 (x : Int) (c : Int) = ((x ^^^ c : Nat) : Int) :=
  bits_xor_u64_nat _ _ hx (by omega)

theorem compl (x : Nat) (hx : x < 18446744073709551616) : bits .xor .u64 IntKind.u64.max (x : Int) = ((18446744073709551615 - x : Nat) : Int) := by
  have e : IntKind.u64.max = ((18446744073709551615 : Nat) : Int) := by decide
  rw [e, bits_xor_u64_nat _ _ (by omega) hx]
  exact congrArg _ (Sl.round_about x hx)

def flat (L : List ByteArray) : List UInt8 := L.flatMap fun s => s.data.toList
theorem flat_more (L : List ByteArray) (k : Nat) (h : k < L.length) : flat (L.take (k + 1)) = flat (L.take k) ++ L[k].data.toList := by
  unfold flat; rw [List.take_succ_eq_append_getElem h, List.flatMap_append]; simp

set_option maxHeartbeats 1000000 in
set_option maxRecDepth 100000 in
theorem sum_any (L : List ByteArray) (ad : Option Addr) (cap : Nat) (w : World) (hT : Tab w) (hL : StrsAt w ad L) (hn : L.length ≤ 9223372036854775807) (hsz : ∀ s ∈ L, s.size ≤ 9223372036854775807) :
    Calls Tryz.prog 81 #[.slice ad L.length cap] w fun e w' => e = .returned (.int .u64 (Sl.sum (flat L) : Nat)) ∧ w' = w := by
  have HL : Hid (StrsAt w ad L) := hL
  have HZ : Hid (∀ s ∈ L, s.size ≤ 9223372036854775807) := hsz
  have HT : Hid (Tab w) := hT
  clear hL hsz hT
  go_enter Tryz.func81, Tryz.ntmps81
  go_wp2
  go_loop [3, 9] (fun r i => ∃ k x : Nat, k ≤ L.length ∧ x < 18446744073709551616 ∧ i = .int .i64 k ∧ r = .int .u64 x ∧ x = Sl.crc Sl.ones (flat (L.take k))) (fun _ i => L.length - (intOf i).toNat)
  case atStart => exact ⟨0, 18446744073709551615, by omega, by omega, rfl, rfl, rfl⟩
  case round =>
    obtain ⟨k, x, hk, hx, rfl, rfl, hq⟩ := hrel
    have HQ : Hid (x = Sl.crc Sl.ones (flat (L.take k))) := hq
    clear hq
    by_cases hlt : k < L.length
    · obtain ⟨b, off, rfl, hbl, hc⟩ := HL.out k hlt
      have hz := HZ.out L[k] (List.getElem_mem hlt)
      have HF : Hid (Sl.crc Sl.ones (flat (L.take (k + 1))) = Sl.crc x L[k].data.toList) := by show _ = _; rw [flat_more L k hlt, Sl.crc_append, ← HQ.out]
      have hl : L[k].data.toList.length = L[k].size := by simp
      generalize L[k] = s at *
      go_wp2
      go_loop [3, 15] (fun r i => ∃ j y : Nat, j ≤ s.size ∧ y < 18446744073709551616 ∧ i = .int .i64 j ∧ r = .int .u64 y ∧ y = Sl.crc x (s.data.toList.take j)) (fun _ i => s.size - (intOf i).toNat)
      case atStart => exact ⟨0, x, by omega, hx, rfl, rfl, rfl⟩
      case round =>
        obtain ⟨j, y, hj, hy, rfl, rfl, hp⟩ := hrel
        have HP : Hid (y = Sl.crc x (s.data.toList.take j)) := hp
        clear hp
        by_cases hlt2 : j < s.size
        · have h8 : (s[j]'hlt2).toNat < 256 := (s[j]'hlt2).toNat_lt
          have HN : Hid (Sl.crc x (s.data.toList.take (j + 1)) = Sl.zs 8 (y ^^^ (s[j]'hlt2).toNat)) := by
            show _ = _
            rw [List.take_succ_eq_append_getElem (by rw [hl]; exact hlt2), Sl.crc_snoc, ← HP.out]; rfl
          have hx1 := step1 y _ hy h8
          have hy1 : y ^^^ (s[j]'hlt2).toNat < 18446744073709551616 := Nat.xor_lt_two_pow (n := 64) hy (by omega)
          have hx2 := step4 _ hy1
          have hc1 := HT.out ((y ^^^ (s[j]'hlt2).toNat) % 16) (by omega)
          have hy2 := Sl.zs_lt 4 _ hy1
          have hx3 := step4 _ hy2
          have hc2 := HT.out (Sl.zs 4 (y ^^^ (s[j]'hlt2).toNat) % 16) (by omega)
          have hy3 := Sl.zs_lt 4 _ hy2
          rw [Sl.eight_four] at HN
          go_wp2
          go_round
          case rel => exact ⟨j + 1, _, by omega, hy3, by go_num, rfl, HN.out.symm⟩
          case measure => simp [intOf]; omega
        · have hjs : j = s.size := by omega
          have HR : Hid (Sl.crc Sl.ones (flat (L.take (k + 1))) = y) := by
            show _ = _
            rw [HF.out, HP.out, hjs, ← hl, List.take_length]
          go_wp2
          go_round
          case rel => exact ⟨k + 1, y, by omega, hy, by go_num, rfl, HR.out.symm⟩
          case measure => simp [intOf]; omega
    · have hkl : k = L.length := by omega
      have HR : Hid (Sl.sum (flat L) = 18446744073709551615 - x) := by
        show _ = _
        rw [HQ.out, hkl, List.take_length]; rfl
      have hcm := compl x hx
      go_wp2
      go_ret
      rw [HR.out]
      exact ⟨rfl, rfl⟩
end Go.Proofs.YtojmhhmpmpbpfaaGreatDoor
namespace Go.Proofs.YtojmhhmpmpbpfaaGreatDoor
open Go.ChangeShapes Go.WideShapes Go.ChangeAt Go.RowKit

abbrev laidL : List (String × DataW Unit) := [("entente/seal.fourBits", Rows.laid_entente_seal_fourBits)]
theorem own2 : ownKnob Tryz.prog.godebug = none := by kernel_rfl
theorem gFour : Tryz.prog.globalNamed "entente/seal.fourBits" = some 0 := by kernel_rfl
theorem tFour : (Tryz.prog.globals[0]?).map (·.type) = some 158 := by kernel_rfl
theorem door_met (os : Os) (args : Array Value) : laidMetH Tryz.prog laidL ((World.doorLaid Tryz.prog 400 os).forCall (fun _ _ => 0) ⟨#[], args, []⟩).memory :=
  laidMetH_of_parts3 (fuel := 8) (laidMet_of_run' 8 (by kernel_rfl) (by kernel_rfl)) (by kernel_rfl) (by kernel_rfl)

theorem tab_of_laid {W : World} (h : laidMetH Tryz.prog laidL W) : Tab W := by
  rw [MakeChecks.laidMetH_plain _ _ _ (by kernel_rfl)] at h
  have hT := Lib.tabIs_of_head (zs := Sl.table) (k := .u64) (rest := []) gFour tFour Tryz.underlying158 Tryz.underlying139 (by kernel_rfl) (by kernel_rfl) h
  intro j hj
  have := hT.cell gFour j (by rw [Sl.table_len]; exact hj)
  rw [Sl.table_at j hj] at this
  exact this
end Go.Proofs.YtojmhhmpmpbpfaaGreatDoor
namespace Go.Proofs.YtojmhhmpmpbpfaaGreatDoor
open Go.RowKit

set_option maxHeartbeats 400000 in
theorem sclone_any (s : ByteArray) (w : World) (hs : s.size ≤ 140737488355328) : Calls Tryz.prog 31 #[.string s] w fun e w' => e = .returned (.string s) ∧ Gr w w' := by
  have HC : Hid (∀ w : World, Calls Tryz.prog 60 #[.string s] w fun e w' => e = .returned (.string s) ∧ Below w.heap.size w w') := fun w => Tryz.stringslite_Clone s w (by omega)
  go_enter Tryz.func31, Tryz.ntmps31
  go_wp2_with fail
  refine (HC.out _).mono ?_
  rintro e w1 ⟨rfl, hb⟩
  go_wp2
  go_ret
  exact ⟨rfl, ⟨hb⟩⟩

end Go.Proofs.YtojmhhmpmpbpfaaGreatDoor
