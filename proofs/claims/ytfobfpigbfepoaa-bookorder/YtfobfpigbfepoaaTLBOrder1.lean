/- What the proof is made of, part 1. -/
import Derived.Test.YtfobfpigbfepoaaProg
import Derived.WalkKit
import Derived.WalkSpells
import Derived.WalkLawsBesides
import Derived.Laws.IdiomStrings
import Derived.Lib.UnsafeStr
import Derived.KernelRfl
import Derived.Deep.RegionWith
import Derived.Deep.DrawnRows
import Derived.Laws.OwnMore
import Derived.Maps.AppendAt
import Derived.Deep.RegionHeld3
import Derived.Lib.ItoaNum
import Derived.Test.YtfobfpigbfepoaaRows
import Derived.ProofKit
import Derived.OpenShut
import Derived.Deep.SlicePairs
import Derived.Deep.Strs
namespace Pk
def numF : Nat → Nat → List UInt8
  | 0, n => [UInt8.ofNat n]
  | f + 1, n => if n < 128 then [UInt8.ofNat n] else UInt8.ofNat (n % 128 + 128) :: numF f (n / 128)
def num (n : Nat) : List UInt8 := numF 9 n
def takeF : Nat → Nat → Nat → List UInt8 → Nat × Nat × Nat
  | 0, _, _, _ => (0, 0, 11)
  | _ + 1, _, _, [] => (0, 0, 10)
  | f + 1, i, a, b :: r =>
    if 128 ≤ b.toNat then takeF f (i + 1) (a + b.toNat % 128 * 128 ^ i) r
    else if (i = 9 ∧ 1 < b.toNat) ∨ (i ≠ 0 ∧ b.toNat = 0) then (0, 0, 11)
    else (a + b.toNat * 128 ^ i, i + 1, 0)
def take (l : List UInt8) : Nat × Nat × Nat := takeF 10 0 0 l
def text (s : List UInt8) : List UInt8 := num s.length ++ s
def body (l : List ByteArray) : List UInt8 := l.flatMap fun s => text s.data.toList
end Pk
namespace Go.Proofs.Ytfobfpigbfepoaa
open Go.RowKit
structure Gr (w w' : World) : Prop where
  below : Below w.heap.size w w'
theorem Gr.refl (w : World) : Gr w w := ⟨Below.refl _ _⟩
theorem Gr.trans {a b c : World} (h : Gr a b) (k : Gr b c) : Gr a c := ⟨h.below.trans (k.below.mono h.below.size)⟩
theorem Gr.alloc {a b : World} (h : Gr a b) {o : Obj} : Gr a (b.alloc o) := ⟨h.below.alloc h.below.size _⟩
theorem Gr.drew {a b : World} (h : Gr a b) : Gr a b.drew := ⟨h.below.drew⟩
theorem Gr.size {a b : World} (h : Gr a b) : a.heap.size ≤ b.heap.size := h.below.size
theorem Gr.cells {W w1 : World} (h : Gr W w1) : (∀ b o, b < W.heap.size → w1.cell? ⟨b, o, none⟩ = W.cell? ⟨b, o, none⟩) ∧ (∀ b o, b < W.heap.size → w1.frozen? ⟨b, o, none⟩ = W.frozen? ⟨b, o, none⟩) :=
  ⟨fun b o hb => h.below.cell (p := ⟨b, o, none⟩) hb, fun b o hb => h.below.frozen (p := ⟨b, o, none⟩) hb⟩
theorem w8 (n : Int) (h0 : 0 ≤ n) (h1 : n < 256) : IntKind.u8.wrap n = n := by rw [IntKind.wrap_u8]; omega
end Go.Proofs.Ytfobfpigbfepoaa
namespace Go.Proofs.Ytfobfpigbfepoaa
open Go.RowKit
theorem Gr.grownBy {w w' : World} (h : Gr w w') : w.grownBy w' none := ⟨h.below.os, h.below.tape, h.below.output, h.below.size, fun k hk _ => h.below.block k hk⟩
theorem Gr.keep {W w1 : World} (g : Gr W w1) {p : Addr} {v : Value} (h : W.cell? p = some v) : w1.cell? p = some v :=
  (g.below.cell (World.block_lt_of_cell? W p h)).trans h
def IntsAt (w : World) (ad : Option Addr) (l : List Int) : Prop :=
  ∀ j (h : j < l.length), ∃ b off, ad = some ⟨b, off, none⟩ ∧ b < w.heap.size ∧ w.cell? ⟨b, off + j, none⟩ = some (.int .i64 l[j])
theorem IntsAt.gr {w w' : World} {ad : Option Addr} {l : List Int} (h : IntsAt w ad l) (g : Gr w w') : IntsAt w' ad l := by
  intro j hj
  obtain ⟨b, off, e, hb, hc⟩ := h j hj
  exact ⟨b, off, e, Nat.lt_of_lt_of_le hb g.size, g.keep hc⟩
theorem IntsAt.take {w : World} {ad : Option Addr} {l : List Int} (h : IntsAt w ad l) (k : Nat) : IntsAt w ad (l.take k) := by
  intro j hj
  have hj' : j < l.length := by rw [List.length_take] at hj; omega
  obtain ⟨b, off, e, hb, hc⟩ := h j hj'
  exact ⟨b, off, e, hb, by rw [List.getElem_take]; exact hc⟩
theorem IntsAt.drop {w : World} {b off : Nat} {l : List Int} (h : IntsAt w (some ⟨b, off, none⟩) l) (k : Nat) : IntsAt w (some ⟨b, off + k, none⟩) (l.drop k) := by
  intro j hj
  rw [List.length_drop] at hj
  obtain ⟨b', off', e, hb, hc⟩ := h (k + j) (by omega)
  cases e
  exact ⟨b, off + k, rfl, hb, by rw [List.getElem_drop, Nat.add_assoc]; exact hc⟩
theorem IntsAt.nil {w : World} {ad : Option Addr} : IntsAt w ad [] := fun j h => absurd h (by simp)
theorem own_or (v : Value) : v.ownBlock = none ∨ v.ownBlock ≠ none := by
  cases v.ownBlock with
  | none => exact Or.inl rfl
  | some q => exact Or.inr (by simp)
end Go.Proofs.Ytfobfpigbfepoaa
namespace Go.Proofs.Ytfobfpigbfepoaa
open Go.RowKit
theorem Gr.set {a b : World} (h : Gr a b) (p : Addr) (hp : a.heap.size ≤ p.block) (v : Value) : Gr a (b.setCell p v) := ⟨h.below.setCell hp v⟩
theorem Gr.keepF {W w1 : World} (g : Gr W w1) {p : Addr} (hb : p.block < W.heap.size) (h : W.frozen? p = false) : w1.frozen? p = false := (g.below.frozen hb).trans h
structure BoxAt (w : World) (g : Nat) (a b c : Value) : Prop where
  c0 : w.cell? ⟨g, 0, none⟩ = some a
  c1 : w.cell? ⟨g, 1, none⟩ = some b
  c2 : w.cell? ⟨g, 2, none⟩ = some c
  f0 : w.frozen? ⟨g, 0, none⟩ = false
  f1 : w.frozen? ⟨g, 1, none⟩ = false
  f2 : w.frozen? ⟨g, 2, none⟩ = false
  lt : g < w.heap.size
theorem BoxAt.gr {w w' : World} {g : Nat} {a b c : Value} (h : BoxAt w g a b c) (k : Gr w w') : BoxAt w' g a b c :=
  ⟨k.keep h.c0, k.keep h.c1, k.keep h.c2, k.keepF h.lt h.f0, k.keepF h.lt h.f1, k.keepF h.lt h.f2, Nat.lt_of_lt_of_le h.lt k.size⟩
theorem BoxAt.new (w : World) (a b c : Value) (t : TypeId) (g : Nat) (hg : g = w.heap.size) : BoxAt (w.alloc (.cells #[a, b, c] t)) g a b c := by
  subst hg
  exact ⟨by simp, by simp, by simp, by simp [go_sem], by simp [go_sem], by simp [go_sem], by simp⟩
def RoomAt (w : World) (g : Nat) : Prop := ∃ a b c, BoxAt w g a b c
theorem RoomAt.gr {w w' : World} {g : Nat} (h : RoomAt w g) (k : Gr w w') : RoomAt w' g := by
  obtain ⟨a, b, c, h⟩ := h
  exact ⟨a, b, c, h.gr k⟩
theorem RoomAt.drew {w : World} {g : Nat} (h : RoomAt w g) : RoomAt w.drew g := h.gr (Gr.refl _).drew
theorem RoomAt.new (w : World) (a b c : Value) (t : TypeId) (g : Nat) (hg : g = w.heap.size) : RoomAt (w.alloc (.cells #[a, b, c] t)) g := ⟨a, b, c, BoxAt.new w a b c t g hg⟩
end Go.Proofs.Ytfobfpigbfepoaa
namespace Go.Proofs.Ytfobfpigbfepoaa
open Go.RowKit
theorem step_append_own {P : Program} {w : World} {ops : Array Oper} {o : Oper} {a : Act} {K : Act → World → Prop} {Q : Exit → Act → World → Prop} {E : Prop} (hgd : o.guard = none) (s x : Operand) (t : TypeId)
    (ho : o.op = .call { callee := .builtin .append, args := #[s, x], argTypes := #[t, t] })
    (base : Nat) (e : TypeId) (i : TypeInfo) (z : Value) (size bytes : Nat) (ht : P.underlying t = some (.slice e)) (hi : P.info? e = some i) (hz : i.zero = some z)
    (hsize : i.size = size) (hby : i.bytes = bytes) (hzs : z.cells.size = size) (hsz : 0 < size)
    (v : Value) (n : Nat) (xs : List Value) (hs : a.eval s = v) (hown : w.ownsRow base e size v n xs)
    (ad : Addr) (m c : Nat) (news : List Value) (hx : a.eval x = .slice (some ad) m c) (hl : news.length = m * size) (hnews : ∀ j u, news[j]? = some u → w.cell? (ad.add j) = some u) (h1 : ∀ u ∈ news, u.oneCell' = true)
    (h63 : n + m ≤ maxLen) (hbytes : (n + m) * bytes ≤ 140737488355328) (hbase : base ≤ w.heap.size)
    (h : ∀ v' w', w'.ownsRow base e size v' (n + m) (xs ++ news) → w.grownBy w' v.ownBlock → (v' = .slice none 0 0 ↔ v = .slice none 0 0 ∧ m = 0) → K (a.put o.dst v') w') :
    if Region.wanted o (yielded ops a.tmps) = true then Oper.wp P o a w K Q else E := by
  have hw : Region.wanted o (yielded ops a.tmps) = true := by simp [Region.wanted, hgd]
  rw [if_pos hw]
  exact wp_append_own w s x t ho base e i z size bytes ht hi hz hsize hby hzs hsz v n xs hs hown ad m c news hx hl hnews h1 h63 hbytes hbase h
theorem own_low {w : World} {base base' : Nat} {e : TypeId} {size n : Nat} {v : Value} {xs : List Value} (h : w.ownsRow base e size v n xs) (hb : base' ≤ base) : w.ownsRow base' e size v n xs := by
  obtain ⟨h1, ⟨rfl, h2⟩ | ⟨g, cap, cur, rfl, h3, h4⟩⟩ := h
  · exact ⟨h1, Or.inl ⟨rfl, h2⟩⟩
  · exact ⟨h1, Or.inr ⟨g, cap, cur, rfl, Nat.le_trans hb h3, h4⟩⟩
theorem Gr.grown {a b c : World} (h : Gr a b) {r : Option Nat} (k : b.grownBy c r) (hr : ∀ g, r = some g → a.heap.size ≤ g) : Gr a c := ⟨h.below.grown k h.below.size hr⟩
end Go.Proofs.Ytfobfpigbfepoaa
namespace Go.Proofs.Ytfobfpigbfepoaa.Csh
def okB (s : Int) : Bool := decide (-9223372036854775808 ≤ s) && decide (s ≤ 9223372036854775807)
def valE (s : Int) : Int := if okB s = true then s else 0
end Go.Proofs.Ytfobfpigbfepoaa.Csh
namespace Go.Proofs.Ytfobfpigbfepoaa.Pot
def mayB (h i o : Int) : Bool := decide (0 ≤ i) && decide (i ≤ h) && decide (0 ≤ o) && decide (h + o ≤ 1000000000000000)
def chkE (h i o : Int) : Int := if mayB h i o = true then 0 else 2
theorem may_iff (h i o : Int) : mayB h i o = true ↔ 0 ≤ i ∧ i ≤ h ∧ 0 ≤ o ∧ h + o ≤ 1000000000000000 := by
  unfold mayB; simp only [Bool.and_eq_true, decide_eq_true_eq]; omega
end Go.Proofs.Ytfobfpigbfepoaa.Pot
namespace Go.Proofs.Ytfobfpigbfepoaa.Act
def letB (b : UInt8) : Bool := decide ((97 : Int) ≤ (b.toNat : Int)) && decide ((b.toNat : Int) ≤ 122)
def digB (b : UInt8) : Bool := decide ((48 : Int) ≤ (b.toNat : Int)) && decide ((b.toNat : Int) ≤ 57)
def sgnB (b : UInt8) : Bool := letB b || digB b
def headB : List UInt8 → Bool
  | [] => false
  | b :: _ => letB b
def nameB (s : ByteArray) : Bool := decide (s.size ≤ 16) && headB s.data.toList && s.data.toList.all sgnB
theorem head_get (s : ByteArray) (h : 0 < s.size) : headB s.data.toList = letB (s[0]'h) := by
  have hl : s.data.toList.length = s.size := by simp
  have h0 : s.data.toList[0]'(by omega) = s[0]'h := rfl
  cases hc : s.data.toList with
  | nil => rw [hc] at hl; simp at hl; omega
  | cons b t => simp only [hc] at h0; rw [← h0]; rfl
theorem head_none (s : ByteArray) (h : s.size = 0) : headB s.data.toList = false := by
  have hl : s.data.toList.length = s.size := by simp
  cases hc : s.data.toList with
  | nil => rfl
  | cons b t => rw [hc] at hl; simp at hl; omega
theorem name_empty (s : ByteArray) (h : s.size = 0) : nameB s = false := by unfold nameB; rw [head_none s h]; simp
theorem name_long (s : ByteArray) (h : 16 < s.size) : nameB s = false := by unfold nameB; rw [decide_eq_false (by omega)]; rfl
theorem name_head (s : ByteArray) (h : 0 < s.size) (hb : letB (s[0]'h) = false) : nameB s = false := by unfold nameB; rw [head_get s h, hb]; simp
theorem name_sign (s : ByteArray) (k : Nat) (h : k < s.size) (hb : sgnB (s[k]'h) = false) : nameB s = false := by
  have hl : s.data.toList.length = s.size := by simp
  have hk : s.data.toList[k]'(by omega) = s[k]'h := rfl
  have : s.data.toList.all sgnB = false := by
    rw [List.all_eq_false]
    exact ⟨_, List.getElem_mem (by omega : k < s.data.toList.length), by rw [hk, hb]; simp⟩
  unfold nameB; rw [this]; simp
theorem name_yes (s : ByteArray) (h : 0 < s.size) (h16 : s.size ≤ 16) (hb : letB (s[0]'h) = true) (ha : ∀ j (hj : j < s.size), sgnB (s[j]'hj) = true) : nameB s = true := by
  have hl : s.data.toList.length = s.size := by simp
  have : s.data.toList.all sgnB = true := by
    rw [List.all_eq_true]
    intro b hm
    obtain ⟨j, hj, rfl⟩ := List.getElem_of_mem hm
    exact ha j (by omega)
  unfold nameB; rw [this, head_get s h, hb, decide_eq_true h16]; rfl
theorem sgn_let {b : UInt8} (h : letB b = true) : sgnB b = true := by unfold sgnB; rw [h]; rfl
theorem sgn_dig {b : UInt8} (h : digB b = true) : sgnB b = true := by unfold sgnB; rw [h]; simp
theorem sgn_no {b : UInt8} (h : letB b = false) (h2 : digB b = false) : sgnB b = false := by unfold sgnB; rw [h, h2]; rfl
theorem dig_let {b : UInt8} (h : digB b = true) : letB b = false := by
  unfold digB at h
  unfold letB
  simp only [Bool.and_eq_true, decide_eq_true_eq] at h
  rw [decide_eq_false (by omega)]; rfl
theorem name_pos {s : ByteArray} (h : nameB s = true) : 0 < s.size ∧ s.size ≤ 16 := by
  refine ⟨?_, ?_⟩
  · by_cases hz : s.size = 0
    · rw [name_empty s hz] at h; cases h
    · omega
  · by_cases hz : 16 < s.size
    · rw [name_long s hz] at h; cases h
    · omega
def actB (k : Int) (s : ByteArray) (n : Int) : Bool := decide (1 ≤ k) && decide (k ≤ 4) && nameB s && decide (1 ≤ n) && decide (n ≤ 1000000000000000)
def chkE (k : Int) (s : ByteArray) (n : Int) : Int := if actB k s n = true then 0 else 60
theorem act_iff (k : Int) (s : ByteArray) (n : Int) : actB k s n = true ↔ (1 ≤ k ∧ k ≤ 4) ∧ nameB s = true ∧ 1 ≤ n ∧ n ≤ 1000000000000000 := by
  unfold actB; simp only [Bool.and_eq_true, decide_eq_true_eq]; constructor
  · rintro ⟨⟨⟨⟨a, b⟩, c⟩, d⟩, e⟩; exact ⟨⟨a, b⟩, c, d, e⟩
  · rintro ⟨⟨a, b⟩, c, d, e⟩; exact ⟨⟨⟨⟨a, b⟩, c⟩, d⟩, e⟩
theorem chk_yes {k : Int} {s : ByteArray} {n : Int} (h : actB k s n = true) : chkE k s n = 0 := by unfold chkE; rw [if_pos h]
theorem chk_no {k : Int} {s : ByteArray} {n : Int} (h : actB k s n = false) : chkE k s n = 60 := by unfold chkE; rw [h]; rfl
def accB (s : ByteArray) (a b c x y z : Int) : Bool := nameB s && Pot.mayB a b c && Pot.mayB x y z
def mayE (s : ByteArray) (a b c x y z : Int) : Int := if accB s a b c x y z = true then 0 else 2
def wK (k : Int) : Int := if k = 3 then 1 else if k = 4 then -1 else 0
structure Ch where
  h : Bool → Int → Int → Int → Int → Int
  i : Bool → Int → Int → Int → Int → Int
  o : Bool → Int → Int → Int → Int → Int
  e : Bool → Int → Int → Int → Int → Int
def oK (k : Int) : Bool := decide (wK k < 0)
def hK (C : Ch) (k x y z n : Int) : Int := if wK k = 0 then x else C.h (oK k) x y z n
end Go.Proofs.Ytfobfpigbfepoaa.Act
namespace Go.Proofs.Ytfobfpigbfepoaa.Lex
open _root_.Go.Proofs.Ytfobfpigbfepoaa.Act (letB digB sgnB nameB headB)
structure Tok where
  k : Int
  t : ByteArray
  p : Int
def blkB (b : UInt8) : Bool := decide ((b.toNat : Int) = 32) || decide ((b.toNat : Int) = 9) || decide ((b.toNat : Int) = 10)
def remB (b : UInt8) : Bool := !decide ((b.toNat : Int) = 10)
def run (p : UInt8 → Bool) : List UInt8 → Nat
  | [] => 0
  | b :: t => if p b = true then run p t + 1 else 0
theorem run_le (p : UInt8 → Bool) (l : List UInt8) : run p l ≤ l.length := by
  induction l with
  | nil => simp [run]
  | cons b t ih =>
    rw [run]; split
    · simp; omega
    · simp
theorem run_yes {p : UInt8 → Bool} {b : UInt8} (t : List UInt8) (h : p b = true) : run p (b :: t) = run p t + 1 := by rw [run, if_pos h]
theorem run_no {p : UInt8 → Bool} {b : UInt8} (t : List UInt8) (h : p b = false) : run p (b :: t) = 0 := by rw [run, h]; rfl
theorem run_eq (p : UInt8 → Bool) : ∀ (l : List UInt8) (k : Nat), k ≤ l.length → (∀ j (hj : j < l.length), j < k → p l[j] = true) → (∀ h : k < l.length, p l[k] = false) → run p l = k := by
  intro l
  induction l with
  | nil => intro k hk _ _; simp at hk; rw [hk]; rfl
  | cons b t ih =>
    intro k hk ha he
    cases k with
    | zero => exact run_no t (he (by simp))
    | succ k =>
      have h0 : p b = true := ha 0 (by simp) (by omega)
      rw [run_yes t h0]
      rw [ih k (by simpa using hk) (fun j hj h => by have := ha (j + 1) (by simpa using hj) (by omega); simpa using this) (fun h => by have := he (by simpa using h); simpa using this)]
def zeroB : List UInt8 → Bool
  | [] => false
  | b :: _ => decide ((b.toNat : Int) = 48)
def numB (s : ByteArray) : Bool := decide (1 ≤ s.size) && decide (s.size ≤ 16) && s.data.toList.all digB && (decide (s.size = 1) || !zeroB s.data.toList)
def sigB (s : ByteArray) : Bool := decide (s = ⟨#[123]⟩) || decide (s = ⟨#[125]⟩) || decide (s = ⟨#[59]⟩)
def mayB (k : Int) (s : ByteArray) : Bool := if k = 1 then nameB s else if k = 2 then numB s else if k = 3 then sigB s else false
def kd (s : ByteArray) : Int := if sigB s = true then 3 else if numB s = true then 2 else if nameB s = true then 1 else 0
theorem all_get {p : UInt8 → Bool} (s : ByteArray) (h : s.data.toList.all p = true) (k : Nat) (hk : k < s.size) : p (s[k]'hk) = true := by
  rw [List.all_eq_true] at h
  exact h _ (List.getElem_mem (show k < s.data.toList.length by simpa using hk))
theorem zero_get (s : ByteArray) (h : 0 < s.size) : zeroB s.data.toList = decide (((s[0]'h).toNat : Int) = 48) := by
  have hl : s.data.toList.length = s.size := by simp
  have h0 : s.data.toList[0]'(by omega) = s[0]'h := rfl
  cases hc : s.data.toList with
  | nil => rw [hc] at hl; simp at hl; omega
  | cons b t => simp only [hc] at h0; rw [← h0]; rfl
theorem num_empty (s : ByteArray) (h : s.size = 0) : numB s = false := by unfold numB; rw [decide_eq_false (by omega)]; rfl
theorem num_long (s : ByteArray) (h : 16 < s.size) : numB s = false := by
  unfold numB
  rw [show decide (s.size ≤ 16) = false from decide_eq_false (by omega)]; simp
theorem num_parts {s : ByteArray} (h : numB s = true) : 1 ≤ s.size ∧ s.size ≤ 16 ∧ (∀ k (hk : k < s.size), digB (s[k]'hk) = true) := by
  unfold numB at h
  simp only [Bool.and_eq_true, decide_eq_true_eq] at h
  exact ⟨h.1.1.1, h.1.1.2, fun k hk => all_get s h.1.2 k hk⟩
theorem sig_parts {s : ByteArray} (h : sigB s = true) : s = ⟨#[123]⟩ ∨ s = ⟨#[125]⟩ ∨ s = ⟨#[59]⟩ := by
  unfold sigB at h
  simp only [Bool.or_eq_true, decide_eq_true_eq] at h
  rcases h with (h | h) | h
  · exact Or.inl h
  · exact Or.inr (Or.inl h)
  · exact Or.inr (Or.inr h)
def tl : List UInt8 → Nat
  | [] => 0
  | b :: t => if letB b = true then run sgnB t + 1 else if digB b = true then run digB t + 1 else 1
def pc (l : List UInt8) : ByteArray := ⟨(l.take (tl l)).toArray⟩
theorem tl_pos (b : UInt8) (t : List UInt8) : 1 ≤ tl (b :: t) := by
  rw [tl]
  split
  · omega
  · split <;> omega
theorem tl_le (l : List UInt8) : tl l ≤ l.length := by
  cases l with
  | nil => simp [tl]
  | cons b t =>
    unfold tl
    have h1 := run_le sgnB t
    have h2 := run_le digB t
    simp only [List.length_cons]
    split
    · omega
    · split <;> omega
theorem tl_let {b : UInt8} (t : List UInt8) (h : letB b = true) : tl (b :: t) = run sgnB (b :: t) := by rw [run_yes t (Act.sgn_let h), tl, if_pos h]
theorem tl_dig {b : UInt8} (t : List UInt8) (h0 : letB b = false) (h : digB b = true) : tl (b :: t) = run digB (b :: t) := by rw [run_yes t h, tl, h0, if_neg (by simp), if_pos h]
theorem tl_one {b : UInt8} (t : List UInt8) (h0 : letB b = false) (h : digB b = false) : tl (b :: t) = 1 := by rw [tl, h0, h, if_neg (by simp), if_neg (by simp)]
theorem pc_size (l : List UInt8) : (pc l).size = tl l := by
  have := tl_le l
  show (List.toArray _).size = _
  simp; omega
theorem pc_list (l : List UInt8) : (pc l).data.toList = l.take (tl l) := by simp [pc]
theorem head_let {b : UInt8} {t : List UInt8} (s : ByteArray) (h : s.data.toList = b :: t) (hb : letB b = true) : sigB s = false ∧ numB s = false := by
  have h2 : digB b = false := by
    cases hd : digB b with
    | false => rfl
    | true => rw [Act.dig_let hd] at hb; cases hb
  have hk : (97 : Int) ≤ (b.toNat : Int) ∧ (b.toNat : Int) ≤ 122 := by unfold letB at hb; simpa only [Bool.and_eq_true, decide_eq_true_eq] using hb
  constructor
  · cases hs : sigB s with
    | false => rfl
    | true =>
      rcases sig_parts hs with rfl | rfl | rfl <;> (simp at h; rw [← h.1] at hk; simp at hk)
  · unfold numB; rw [h, List.all_cons, h2]; simp
theorem head_dig {b : UInt8} {t : List UInt8} (s : ByteArray) (h : s.data.toList = b :: t) (hb : digB b = true) : sigB s = false ∧ nameB s = false := by
  have h2 := Act.dig_let hb
  have hk : (48 : Int) ≤ (b.toNat : Int) ∧ (b.toNat : Int) ≤ 57 := by unfold digB at hb; simpa only [Bool.and_eq_true, decide_eq_true_eq] using hb
  constructor
  · cases hs : sigB s with
    | false => rfl
    | true =>
      rcases sig_parts hs with rfl | rfl | rfl <;> (simp at h; rw [← h.1] at hk; simp at hk)
  · unfold nameB; rw [h, show headB (b :: t) = letB b from rfl, h2]; simp
theorem head_else {b : UInt8} {t : List UInt8} (s : ByteArray) (h : s.data.toList = b :: t) (h1 : letB b = false) (h2 : digB b = false) : numB s = false ∧ nameB s = false := by
  constructor
  · unfold numB; rw [h, List.all_cons, h2]; simp
  · unfold nameB; rw [h, show headB (b :: t) = letB b from rfl, h1]; simp
theorem pc_cons (b : UInt8) (t : List UInt8) : ∃ u, (pc (b :: t)).data.toList = b :: u := by
  rw [pc_list]
  have := tl_pos b t
  obtain ⟨n, hn⟩ : ∃ n, tl (b :: t) = n + 1 := ⟨tl (b :: t) - 1, by omega⟩
  rw [hn, List.take_succ_cons]
  exact ⟨_, rfl⟩
def fk (b : UInt8) : Int := if letB b = true then 1 else if digB b = true then 2 else 3
theorem kd_first (b : UInt8) (t : List UInt8) : kd (pc (b :: t)) = if mayB (fk b) (pc (b :: t)) = true then fk b else 0 := by
  obtain ⟨u, hu⟩ := pc_cons b t
  unfold fk
  cases h1 : letB b with
  | true =>
    obtain ⟨a1, a2⟩ := head_let _ hu h1
    unfold kd mayB
    rw [a1, a2]; simp
  | false =>
    cases h2 : digB b with
    | true =>
      obtain ⟨a1, a2⟩ := head_dig _ hu h2
      unfold kd mayB
      rw [a1, a2]; simp
    | false =>
      obtain ⟨a1, a2⟩ := head_else _ hu h1 h2
      unfold kd mayB
      rw [a1, a2]; simp
def scn : Nat → List UInt8 → Nat → List Tok × Option Nat
  | 0, _, _ => ([], none)
  | _ + 1, [], at' => ([⟨0, ⟨#[]⟩, at'⟩], none)
  | f + 1, b :: t, at' =>
    if blkB b = true then scn f t (at' + 1)
    else if (b.toNat : Int) = 35 then scn f ((b :: t).drop (run remB (b :: t))) (at' + run remB (b :: t))
    else if kd (pc (b :: t)) = 0 then ([], some at')
    else (⟨kd (pc (b :: t)), pc (b :: t), at'⟩ :: (scn f ((b :: t).drop (tl (b :: t))) (at' + tl (b :: t))).1, (scn f ((b :: t).drop (tl (b :: t))) (at' + tl (b :: t))).2)
theorem rem_pos {b : UInt8} (t : List UInt8) (h : (b.toNat : Int) = 35) : 1 ≤ run remB (b :: t) := by
  rw [run_yes t (by unfold remB; rw [decide_eq_false (by omega)]; rfl)]; omega
theorem scn_fuel : ∀ (f g : Nat) (l : List UInt8) (a : Nat), l.length < f → l.length < g → scn f l a = scn g l a := by
  intro f
  induction f with
  | zero => intro g l a h; omega
  | succ f ih =>
    intro g l a hf hg
    cases g with
    | zero => omega
    | succ g =>
      cases l with
      | nil => rfl
      | cons b t =>
        simp only [List.length_cons] at hf hg
        unfold scn
        split
        · exact ih g t _ (by omega) (by omega)
        · split
          · rename_i h35
            have := rem_pos t h35
            exact ih g _ _ (by simp; omega) (by simp; omega)
          · have := tl_pos b t
            rw [ih g ((b :: t).drop (tl (b :: t))) _ (by simp; omega) (by simp; omega)]
def S (l : List UInt8) (a : Nat) : List Tok × Option Nat := scn (l.length + 1) l a
theorem S_nil (a : Nat) : S [] a = ([⟨0, ⟨#[]⟩, a⟩], none) := rfl
theorem S_blank {b : UInt8} (t : List UInt8) (a : Nat) (h : blkB b = true) : S (b :: t) a = S t (a + 1) := by
  unfold S; rw [List.length_cons, scn, if_pos h]
theorem S_rem {b : UInt8} (t : List UInt8) (a : Nat) (h : blkB b = false) (h2 : (b.toNat : Int) = 35) : S (b :: t) a = S ((b :: t).drop (run remB (b :: t))) (a + run remB (b :: t)) := by
  have := rem_pos t h2
  unfold S; rw [List.length_cons, scn, h, if_neg (by simp), if_pos h2]
  exact scn_fuel _ _ _ _ (by simp; omega) (by simp)
theorem S_bad {b : UInt8} (t : List UInt8) (a : Nat) (h : blkB b = false) (h2 : ¬ (b.toNat : Int) = 35) (h3 : kd (pc (b :: t)) = 0) : S (b :: t) a = ([], some a) := by
  unfold S; rw [List.length_cons, scn, h, if_neg (by simp), if_neg h2, if_pos h3]
theorem S_tok {b : UInt8} (t : List UInt8) (a : Nat) (h : blkB b = false) (h2 : ¬ (b.toNat : Int) = 35) (h3 : ¬ kd (pc (b :: t)) = 0) :
    S (b :: t) a = (⟨kd (pc (b :: t)), pc (b :: t), a⟩ :: (S ((b :: t).drop (tl (b :: t))) (a + tl (b :: t))).1, (S ((b :: t).drop (tl (b :: t))) (a + tl (b :: t))).2) := by
  have := tl_pos b t
  unfold S; rw [List.length_cons, scn, h, if_neg (by simp), if_neg h2, if_neg h3]
  rw [scn_fuel (t.length + 1) (((b :: t).drop (tl (b :: t))).length + 1) _ _ (by simp; omega) (by simp)]
theorem S_blanks (l : List UInt8) : ∀ a, S l a = S (l.drop (run blkB l)) (a + run blkB l) := by
  induction l with
  | nil => intro a; rfl
  | cons b t ih =>
    intro a
    cases h : blkB b with
    | false => rw [run_no t h]; simp
    | true =>
      rw [run_yes t h, S_blank t a h, ih (a + 1), List.drop_succ_cons]
      rw [show a + 1 + run blkB t = a + (run blkB t + 1) by omega]
theorem drop_get (L : List UInt8) (k : Nat) (h : k < L.length) : L.drop k = L[k] :: L.drop (k + 1) := (List.getElem_cons_drop h).symm
def scF (L : List UInt8) : Int := if 2000 < L.length then 3 else if (S L 0).2 = none then 0 else 80
def scA (L : List UInt8) : Int := if 2000 < L.length then 0 else match (S L 0).2 with | none => 0 | some p => (p : Int)
def scT (L : List UInt8) : List Tok := if 2000 < L.length then [] else match (S L 0).2 with | none => (S L 0).1 | some _ => []
end Go.Proofs.Ytfobfpigbfepoaa.Lex
namespace Go.Proofs.Ytfobfpigbfepoaa
open Go.RowKit
open Lex (Tok)
def tokC (x : Tok) : List Value := [.int .i64 x.k, .string x.t, .int .i64 x.p]
def tokV (L : List Tok) : List Value := L.flatMap tokC
theorem tokV_app (L M : List Tok) : tokV (L ++ M) = tokV L ++ tokV M := by simp [tokV]
theorem tokV_get (L : List Tok) : ∀ j (h : j < L.length), (tokV L)[j * 3]? = some (.int .i64 L[j].k) ∧ (tokV L)[j * 3 + 1]? = some (.string L[j].t) ∧ (tokV L)[j * 3 + 2]? = some (.int .i64 L[j].p) := by
  induction L with
  | nil => intro j h; simp at h
  | cons x t ih =>
    intro j h
    have e : tokV (x :: t) = .int .i64 x.k :: .string x.t :: .int .i64 x.p :: tokV t := rfl
    rw [e]
    cases j with
    | zero => exact ⟨rfl, rfl, rfl⟩
    | succ j =>
      obtain ⟨h1, h2, h3⟩ := ih j (by simpa using h)
      rw [show (j + 1) * 3 = j * 3 + 1 + 1 + 1 by omega]
      refine ⟨by simpa using h1, ?_, ?_⟩
      · rw [show j * 3 + 1 + 1 + 1 + 1 = (j * 3 + 1) + 1 + 1 + 1 by omega]; simpa using h2
      · rw [show j * 3 + 1 + 1 + 1 + 2 = (j * 3 + 2) + 1 + 1 + 1 by omega]; simpa using h3
theorem tokV_one (L : List Tok) : ∀ u ∈ tokV L, u.oneCell' = true := by
  intro u hu
  simp only [tokV, List.mem_flatMap] at hu
  obtain ⟨h, _, hu⟩ := hu
  simp [tokC] at hu
  rcases hu with rfl | rfl | rfl <;> rfl
def ToksAt (w : World) (ad : Option Addr) (L : List Tok) : Prop :=
  ∀ j (h : j < L.length), ∃ b off, ad = some ⟨b, off, none⟩ ∧ b < w.heap.size ∧ w.cell? ⟨b, off + j * 3, none⟩ = some (.int .i64 L[j].k) ∧ w.cell? ⟨b, off + j * 3 + 1, none⟩ = some (.string L[j].t) ∧ w.cell? ⟨b, off + j * 3 + 2, none⟩ = some (.int .i64 L[j].p)
theorem ToksAt.gr {w w' : World} {ad : Option Addr} {L : List Tok} (h : ToksAt w ad L) (g : Gr w w') : ToksAt w' ad L := by
  intro j hj
  obtain ⟨b, off, e, hb, h1, h2, h3⟩ := h j hj
  exact ⟨b, off, e, Nat.lt_of_lt_of_le hb g.size, g.keep h1, g.keep h2, g.keep h3⟩
theorem ToksAt.nil {w : World} {ad : Option Addr} : ToksAt w ad [] := fun j h => absurd h (by simp)
theorem ToksAt.take {w : World} {ad : Option Addr} {L : List Tok} (h : ToksAt w ad L) (k : Nat) : ToksAt w ad (L.take k) := by
  intro j hj
  have hj' : j < L.length := by rw [List.length_take] at hj; omega
  obtain ⟨b, off, e, hb, h1, h2, h3⟩ := h j hj'
  refine ⟨b, off, e, hb, ?_, ?_, ?_⟩ <;> rw [List.getElem_take] <;> assumption
theorem ToksAt.setFar {w : World} {ad : Option Addr} {L : List Tok} (h : ToksAt w ad L) (p : Addr) (v : Value) (hp : ∀ a, ad = some a → p.block ≠ a.block) : ToksAt (w.setCell p v) ad L := by
  intro j hj
  obtain ⟨b, off, e, hb, h1, h2, h3⟩ := h j hj
  have hne : p.block ≠ b := hp _ e
  refine ⟨b, off, e, by simpa using hb, ?_, ?_, ?_⟩ <;> rw [World.cell?_setCell_far _ _ _ _ (by simpa using hne)] <;> assumption
theorem own_toks {base : Nat} {v : Value} {L : List Tok} {w : World} (h : w.ownsRow base 79 3 v L.length (tokV L)) : ∃ ad cap, v = .slice ad L.length cap ∧ L.length ≤ cap ∧ ToksAt w ad L ∧ ∀ a, ad = some a → base ≤ a.block := by
  have hcell := fun g (hg : v.ownBlock = some g) => h.cells hg
  have hlt := h.lt
  obtain ⟨_, ⟨rfl, h0⟩ | ⟨g, cap, cur, rfl, hx⟩⟩ := h
  · have : L = [] := List.length_eq_zero_iff.1 h0
    subst this
    exact ⟨none, 0, rfl, by simp, ToksAt.nil, fun a e => by cases e⟩
  · refine ⟨some ⟨g, 0, none⟩, cap, rfl, hx.2.2.1, ?_, fun a e => by cases e; exact (hlt g rfl).1⟩
    intro j hj
    obtain ⟨g1, g2, g3⟩ := tokV_get L j hj
    have c1 := hcell g rfl _ _ g1
    have c2 := hcell g rfl _ _ g2
    have c3 := hcell g rfl _ _ g3
    rw [Addr.add_lit] at c1 c2 c3
    rw [← Nat.add_assoc] at c2 c3
    exact ⟨g, 0, rfl, (hlt g rfl).2, c1, c2, c3⟩
theorem toks_lit1 (w : World) (x : Tok) (t : TypeId) : ∀ j u, (tokV [x])[j]? = some u → (w.alloc (.cells #[.int .i64 x.k, .string x.t, .int .i64 x.p] t)).cell? ((⟨w.heap.size, 0, none⟩ : Addr).add j) = some u := by
  intro j u hu
  have hj : j < 3 := by
    have := (List.getElem?_eq_some_iff.1 hu).1
    simpa [tokV, tokC] using this
  rw [Addr.add_lit]
  match j, hj with
  | 0, _ => simp [tokV, tokC] at hu; subst hu; simp
  | 1, _ => simp [tokV, tokC] at hu; subst hu; simp
  | 2, _ => simp [tokV, tokC] at hu; subst hu; simp
theorem infoTok : (Try.prog.info? 79).map (fun i => (i.zero, i.size, i.bytes)) = some (some (.agg #[.int .i64 0, .string ⟨#[]⟩, .int .i64 0]), 3, 32) := by kernel_rfl
theorem info_parts3 {t : TypeId} {z : Value} {n b : Nat} (h : (Try.prog.info? t).map (fun i => (i.zero, i.size, i.bytes)) = some (some z, n, b)) : ∃ i, Try.prog.info? t = some i ∧ i.zero = some z ∧ i.size = n ∧ i.bytes = b := by
  cases hi : Try.prog.info? t with
  | none => rw [hi] at h; cases h
  | some i => rw [hi] at h; simp at h; exact ⟨i, rfl, h.1, h.2.1, h.2.2⟩
structure PlAt (w : World) (b : Nat) (s : ByteArray) (k : Nat) : Prop where
  c0 : w.cell? ⟨b, 0, none⟩ = some (.string s)
  c1 : w.cell? ⟨b, 1, none⟩ = some (.int .i64 (k : Int))
  f1 : w.frozen? ⟨b, 1, none⟩ = false
  lt : b < w.heap.size
theorem PlAt.gr {w w' : World} {b : Nat} {s : ByteArray} {k : Nat} (h : PlAt w b s k) (g : Gr w w') : PlAt w' b s k :=
  ⟨g.keep h.c0, g.keep h.c1, g.keepF h.lt h.f1, Nat.lt_of_lt_of_le h.lt g.size⟩
theorem PlAt.set {w : World} {b : Nat} {s : ByteArray} {k : Nat} (h : PlAt w b s k) (m : Nat) : PlAt (w.setCell ⟨b, 1, none⟩ (.int .i64 (m : Int))) b s m := by
  obtain ⟨h0, h1, h2, hl⟩ := h
  exact ⟨by simp [go_sem, *], by simp [go_sem, *], by simp [go_sem, *], by simpa using hl⟩
structure PO (b : Nat) (w w' : World) : Prop where
  grown : w.grownBy w' (some b)
  cell : ∀ o, o ≠ 1 → b < w.heap.size → w'.cell? ⟨b, o, none⟩ = w.cell? ⟨b, o, none⟩
  froz : ∀ o, b < w.heap.size → w'.frozen? ⟨b, o, none⟩ = w.frozen? ⟨b, o, none⟩
theorem PO.ofGr {b : Nat} {w w' : World} (g : Gr w w') : PO b w w' :=
  ⟨⟨g.below.os, g.below.tape, g.below.output, g.size, fun k hk _ => g.below.block k hk⟩, fun o _ hb => g.below.cell (p := ⟨b, o, none⟩) hb, fun o hb => g.below.frozen (p := ⟨b, o, none⟩) hb⟩
theorem PO.size {b : Nat} {w w' : World} (h : PO b w w') : w.heap.size ≤ w'.heap.size := h.grown.size
theorem PO.trans {b : Nat} {u v w : World} (h : PO b u v) (k : PO b v w) : PO b u w := by
  have hs := h.size
  refine ⟨⟨?_, ?_, ?_, Nat.le_trans h.size k.size, ?_⟩, fun o ho hb => (k.cell o ho (by omega)).trans (h.cell o ho hb), fun o hb => (k.froz o (by omega)).trans (h.froz o hb)⟩
  · exact k.grown.os.trans h.grown.os
  · exact k.grown.tape.trans h.grown.tape
  · exact k.grown.output.trans h.grown.output
  · intro i hi hne
    exact (k.grown.block i (by omega) hne).trans (h.grown.block i hi hne)
theorem PO.set {b : Nat} (w : World) (v : Value) : PO b w (w.setCell ⟨b, 1, none⟩ v) :=
  ⟨⟨rfl, rfl, rfl, by simp [World.setCell], fun k _ hk => Below.heap_setCell _ _ _ _ (fun e => hk (by rw [e]))⟩, fun o ho _ => by rw [World.cell?_setCell_other]; intro e; exact ho (by cases e; rfl), fun o _ => by rw [World.frozen?_setCell]⟩
theorem Gr.po {b : Nat} {a w w' : World} (g : Gr a w) (h : PO b w w') (hb : a.heap.size ≤ b) : Gr a w' := ⟨g.below.grown h.grown g.size (fun k e => by cases e; exact hb)⟩
theorem PO.keep {b : Nat} {w w' : World} (h : PO b w w') {g o : Nat} {v : Value} (hg : g < w.heap.size) (hne : g ≠ b) (hc : w.cell? ⟨g, o, none⟩ = some v) : w'.cell? ⟨g, o, none⟩ = some v := by
  rw [← hc]; exact World.cell?_of_block (w := w) (h.grown.block g hg (by simp; omega))
theorem PO.keepF {b : Nat} {w w' : World} (h : PO b w w') {g o : Nat} {v : Bool} (hg : g < w.heap.size) (hne : g ≠ b) (hc : w.frozen? ⟨g, o, none⟩ = v) : w'.frozen? ⟨g, o, none⟩ = v := by
  rw [← hc]; exact World.frozen?_of_block (w := w) (h.grown.block g hg (by simp; omega))
end Go.Proofs.Ytfobfpigbfepoaa
namespace Go.Proofs.Ytfobfpigbfepoaa
open Go.ChangeShapes Go.WideShapes Go.ChangeAt Go.RowKit
open Lex (Tok)
theorem own2 : ownKnob Try.prog.godebug = none := by kernel_rfl
theorem laidOut2 : laidOutB Try.prog = true := by kernel_rfl
theorem rng_i64 {n : Int} (h : (Lit.int .i64 n).wf = true) : -9223372036854775808 ≤ n ∧ n ≤ 9223372036854775807 := by
  simp only [Lit.wf, Bool.and_eq_true, decide_eq_true_eq] at h
  exact h
end Go.Proofs.Ytfobfpigbfepoaa
namespace Go.Proofs.Ytfobfpigbfepoaa
open Go.RowKit
def RowAt {α : Type} (f : α → List Value) (w : World) (ad : Option Addr) (L : List α) : Prop :=
  ∀ j u, (L.flatMap f)[j]? = some u → ∃ b off, ad = some ⟨b, off, none⟩ ∧ b < w.heap.size ∧ w.cell? ⟨b, off + j, none⟩ = some u
theorem flat_len {α : Type} {f : α → List Value} {c : Nat} (hc : ∀ x, (f x).length = c) (L : List α) : (L.flatMap f).length = L.length * c := by
  induction L with
  | nil => simp
  | cons x t ih => rw [List.flatMap_cons, List.length_append, ih, hc, List.length_cons, Nat.add_mul]; omega
theorem flat_get {α : Type} {f : α → List Value} {c : Nat} (hc : ∀ x, (f x).length = c) (L : List α) : ∀ j (h : j < L.length) i, i < c → (L.flatMap f)[j * c + i]? = (f L[j])[i]? := by
  induction L with
  | nil => intro j h; simp at h
  | cons x t ih =>
    intro j h i hi
    rw [List.flatMap_cons]
    cases j with
    | zero => rw [Nat.zero_mul, Nat.zero_add, List.getElem?_append_left (by rw [hc]; exact hi)]; rfl
    | succ j =>
      rw [Nat.add_mul, Nat.one_mul, List.getElem?_append_right (by rw [hc]; omega), hc, show j * c + c + i - c = j * c + i by omega, ih j (by simpa using h) i hi]; rfl
theorem RowAt.gr {α : Type} {f : α → List Value} {w w' : World} {ad : Option Addr} {L : List α} (h : RowAt f w ad L) (g : Gr w w') : RowAt f w' ad L := by
  intro j u hu
  obtain ⟨b, off, e, hb, h1⟩ := h j u hu
  exact ⟨b, off, e, Nat.lt_of_lt_of_le hb g.size, g.keep h1⟩
theorem RowAt.alloc {α : Type} {f : α → List Value} {w : World} {ad : Option Addr} {L : List α} (h : RowAt f w ad L) {o : Obj} : RowAt f (w.alloc o) ad L := h.gr (Gr.refl _).alloc
theorem RowAt.drew {α : Type} {f : α → List Value} {w : World} {ad : Option Addr} {L : List α} (h : RowAt f w ad L) : RowAt f w.drew ad L := h.gr (Gr.refl _).drew
theorem RowAt.nil {α : Type} {f : α → List Value} {w : World} {ad : Option Addr} : RowAt f w ad [] := fun j u h => by simp at h
theorem RowAt.setFar {α : Type} {f : α → List Value} {w : World} {ad : Option Addr} {L : List α} (h : RowAt f w ad L) (p : Addr) (v : Value) (hp : ∀ a, ad = some a → p.block ≠ a.block) : RowAt f (w.setCell p v) ad L := by
  intro j u hu
  obtain ⟨b, off, e, hb, h1⟩ := h j u hu
  exact ⟨b, off, e, by simpa using hb, by rw [World.cell?_setCell_far _ _ _ _ (by simpa using hp _ e)]; exact h1⟩
theorem RowAt.news {α : Type} {f : α → List Value} {w : World} {a : Addr} {L : List α} (h : RowAt f w (some a) L) : ∀ j u, (L.flatMap f)[j]? = some u → w.cell? (a.add j) = some u := by
  intro j u hu
  obtain ⟨b, off, e, _, h1⟩ := h j u hu
  cases e
  rw [Addr.add_lit]; exact h1
theorem RowAt.none {α : Type} {f : α → List Value} {c : Nat} (hc : ∀ x, (f x).length = c) (h0 : 0 < c) {w : World} {L : List α} (h : RowAt f w none L) : L = [] := by
  cases L with
  | nil => rfl
  | cons x t =>
    have hl := flat_len hc (x :: t)
    have : 0 < ((x :: t).flatMap f).length := by rw [hl, List.length_cons]; exact Nat.mul_pos (by omega) h0
    obtain ⟨b, off, e, _⟩ := h 0 _ (List.getElem?_eq_getElem this)
    cases e
theorem own_row {α : Type} {f : α → List Value} {c : Nat} {base : Nat} {t : TypeId} {v : Value} {L : List α} {w : World} (h : w.ownsRow base t c v L.length (L.flatMap f)) :
    ∃ ad cap, v = .slice ad L.length cap ∧ L.length ≤ cap ∧ cap ≤ 9223372036854775807 ∧ RowAt f w ad L ∧ (∀ a, ad = some a → base ≤ a.block) ∧ (ad = none → cap = 0) := by
  have hcell := fun g (hg : v.ownBlock = some g) => h.cells hg
  have hlt := h.lt
  obtain ⟨_, ⟨rfl, h0⟩ | ⟨g, cap, cur, rfl, hx⟩⟩ := h
  · have : L = [] := List.length_eq_zero_iff.1 h0
    subst this
    exact ⟨none, 0, rfl, by simp, by omega, RowAt.nil, (fun a e => by cases e), fun _ => rfl⟩
  · have hm : cap ≤ 9223372036854775807 := by have := hx.2.2.2.1; unfold maxLen at this; omega
    refine ⟨some ⟨g, 0, none⟩, cap, rfl, hx.2.2.1, hm, ?_, (fun a e => by cases e; exact (hlt g rfl).1), fun e => by cases e⟩
    intro j u hu
    have c1 := hcell g rfl _ _ hu
    rw [Addr.add_lit] at c1
    exact ⟨g, 0, rfl, (hlt g rfl).2, c1⟩
end Go.Proofs.Ytfobfpigbfepoaa
namespace Go.Proofs.Ytfobfpigbfepoaa.Lex
open _root_.Go.Proofs.Ytfobfpigbfepoaa.Act (letB digB sgnB nameB headB)
def endT (x : Tok) : Bool := decide (x.k = 0) && decide (x.t = ⟨#[]⟩)
def okT (x : Tok) : Bool := mayB x.k x.t
def szs (I : List Tok) : Nat := (I.map (fun x => x.t.size)).sum
def jz (I : List Tok) : Nat := szs I + (I.length - 1)
def ckE (T : List Tok) : Int := match T.getLast? with
  | none => 80
  | some x => if endT x = true then (if T.dropLast.all okT = true then (if 2000 < jz T.dropLast then 3 else 0) else 80) else 80
theorem szs_snoc (I : List Tok) (x : Tok) : szs (I ++ [x]) = szs I + x.t.size := by simp [szs]
theorem szs_take (I : List Tok) (i : Nat) (h : i < I.length) : szs (I.take (i + 1)) = szs (I.take i) + I[i].t.size := by
  rw [List.take_succ_eq_append_getElem h, szs_snoc]
theorem may_size {k : Int} {s : ByteArray} (h : mayB k s = true) : 1 ≤ s.size ∧ s.size ≤ 16 := by
  unfold mayB at h
  split at h
  · have := Act.name_pos h; omega
  · split at h
    · have := num_parts h; exact ⟨this.1, this.2.1⟩
    · split at h
      · rcases sig_parts h with rfl | rfl | rfl <;> decide
      · cases h
theorem szs_bound (I : List Tok) (h : ∀ x ∈ I, okT x = true) : szs I ≤ 16 * I.length := by
  induction I with
  | nil => simp [szs]
  | cons x t ih =>
    have h1 := ih (fun y hy => h y (by simp [hy]))
    have h2 := (may_size (h x (by simp))).2
    simp [szs] at h1 ⊢; omega
theorem ck_none : ckE [] = 80 := rfl
theorem ck_snoc (I : List Tok) (x : Tok) : ckE (I ++ [x]) = if endT x = true then (if I.all okT = true then (if 2000 < jz I then 3 else 0) else 80) else 80 := by
  unfold ckE; simp
theorem all_idx (I : List Tok) (p : Tok → Bool) (h : ∀ j (hj : j < I.length), p I[j] = true) : I.all p = true := by
  rw [List.all_eq_true]
  intro x hx
  obtain ⟨j, hj, rfl⟩ := List.getElem_of_mem hx
  exact h j hj
theorem all_nidx (I : List Tok) (p : Tok → Bool) (j : Nat) (hj : j < I.length) (h : p I[j] = false) : I.all p = false := by
  rw [List.all_eq_false]
  exact ⟨I[j], List.getElem_mem hj, by rw [h]; simp⟩
def vl : List UInt8 → Int → Int
  | [], n => n
  | b :: t, n => vl t (n * 10 + ((b.toNat : Int) - 48))
def valE (k : Int) (s : ByteArray) : Int := if k = 2 ∧ numB s = true then vl s.data.toList 0 else 0
def valB (k : Int) (s : ByteArray) : Bool := decide (k = 2) && numB s
theorem vl_snoc (l : List UInt8) (b : UInt8) : ∀ n, vl (l ++ [b]) n = vl l n * 10 + ((b.toNat : Int) - 48) := by
  induction l with
  | nil => intro n; rfl
  | cons c t ih => intro n; exact ih _
theorem vl_take (l : List UInt8) (k : Nat) (h : k < l.length) : vl (l.take (k + 1)) 0 = vl (l.take k) 0 * 10 + ((l[k].toNat : Int) - 48) := by
  rw [List.take_succ_eq_append_getElem h, vl_snoc]
theorem vl_bound : ∀ (l : List UInt8) (n : Int), 0 ≤ n → (∀ b ∈ l, digB b = true) → 0 ≤ vl l n ∧ vl l n < (n + 1) * 10 ^ l.length := by
  intro l
  induction l with
  | nil => intro n hn _; simp [vl]; omega
  | cons b t ih =>
    intro n hn hd
    have hb : digB b = true := hd b (by simp)
    have hk : (48 : Int) ≤ (b.toNat : Int) ∧ (b.toNat : Int) ≤ 57 := by unfold Act.digB at hb; simpa only [Bool.and_eq_true, decide_eq_true_eq] using hb
    obtain ⟨h1, h2⟩ := ih (n * 10 + ((b.toNat : Int) - 48)) (by omega) (fun c hc => hd c (by simp [hc]))
    refine ⟨h1, Int.lt_of_lt_of_le h2 ?_⟩
    rw [List.length_cons, Int.pow_succ]
    have : (n * 10 + ((b.toNat : Int) - 48) + 1) ≤ (n + 1) * 10 := by omega
    have h3 : (0 : Int) ≤ 10 ^ t.length := Int.pow_nonneg (by omega)
    calc (n * 10 + ((b.toNat : Int) - 48) + 1) * 10 ^ t.length ≤ ((n + 1) * 10) * 10 ^ t.length := Int.mul_le_mul_of_nonneg_right this h3
      _ = (n + 1) * (10 ^ t.length * 10) := by rw [Int.mul_assoc, Int.mul_comm 10]
theorem vl_rng (l : List UInt8) (hl : l.length ≤ 16) (hd : ∀ b ∈ l, digB b = true) : 0 ≤ vl l 0 ∧ vl l 0 < 10000000000000000 := by
  obtain ⟨h1, h2⟩ := vl_bound l 0 (by omega) hd
  refine ⟨h1, Int.lt_of_lt_of_le h2 ?_⟩
  have h := Nat.pow_le_pow_right (show 0 < 10 by omega) hl
  have e : ((10 : Int) ^ l.length) = ((10 ^ l.length : Nat) : Int) := by simp
  rw [e]
  omega
end Go.Proofs.Ytfobfpigbfepoaa.Lex
namespace Go.Proofs.Ytfobfpigbfepoaa.Lex
open _root_.Go.Proofs.Ytfobfpigbfepoaa.Act (letB digB sgnB nameB headB)
theorem list_bytes {x y : ByteArray} (h : x.data.toList = y.data.toList) : x = y := by
  cases x with
  | mk a => cases y with
    | mk b => simp at h; rw [h]
theorem bytes_list (x : ByteArray) : (⟨x.data.toList.toArray⟩ : ByteArray) = x := list_bytes (by simp)
theorem scn_len : ∀ (f : Nat) (l : List UInt8) (a : Nat), (scn f l a).1.length ≤ l.length + 1 := by
  intro f
  induction f with
  | zero => intro l a; simp [scn]
  | succ f ih =>
    intro l a
    cases l with
    | nil => simp [scn]
    | cons b t =>
      unfold scn
      split
      · have := ih t (a + 1); simp; omega
      · split
        · have := ih ((b :: t).drop (run remB (b :: t))) (a + run remB (b :: t))
          rw [List.length_drop] at this
          omega
        · split
          · simp
          · have h1 := ih ((b :: t).drop (tl (b :: t))) (a + tl (b :: t))
            have h2 := tl_pos b t
            have h3 := tl_le (b :: t)
            simp only [List.length_drop, List.length_cons] at h1 h3 ⊢
            omega
theorem scT_len (l : List UInt8) : (scT l).length ≤ 2001 := by
  unfold scT
  split
  · simp
  · split
    · have := scn_len (l.length + 1) l 0
      unfold S
      omega
    · simp
end Go.Proofs.Ytfobfpigbfepoaa.Lex
