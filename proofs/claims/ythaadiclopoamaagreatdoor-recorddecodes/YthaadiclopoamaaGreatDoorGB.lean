/- Parts of these proofs, laid together. -/
import Derived.Test.YthaadiclopoamaaGreatDoorGA
import Derived.Deep.RegionHeld3
import Derived.Lib.Bytealg
import Derived.Lib.ItoaNum
/- append at a step of a region that draws its order; a row that is owned from a lower base on. -/
set_option maxRecDepth 100000
set_option maxHeartbeats 8000000
namespace Go.Proofs.YthaadiclopoamaaGreatDoor
open Go.RowKit

theorem step_append_own {P : Program} {w : World} {ops : Array Oper} {o : Oper} {a : Act} {K : Act -> World -> Prop} {Q : Exit -> Act -> World -> Prop} {E : Prop} (hgd : o.guard = none) (s x : Operand) (t : TypeId)
  (ho : o.op = .call { callee := .builtin .append, args := #[s, x], argTypes := #[t, t] })
  (base : Nat) (e : TypeId) (i : TypeInfo) (z : Value) (size bytes : Nat) (ht : P.underlying t = some (.slice e)) (hi : P.info? e = some i) (hz : i.zero = some z)
  (hsize : i.size = size) (hby : i.bytes = bytes) (hzs : z.cells.size = size) (hsz : 0 < size)
  (v : Value) (n : Nat) (xs : List Value) (hs : a.eval s = v) (hown : w.ownsRow base e size v n xs)
  (ad : Addr) (m c : Nat) (news : List Value) (hx : a.eval x = .slice (some ad) m c) (hl : news.length = m * size) (hnews : ∀ j u, news[j]? = some u -> w.cell? (ad.add j) = some u) (h1 : ∀ u ∈ news, u.oneCell' = true)
  (h63 : n + m <= maxLen) (hbytes : (n + m) * bytes <= 140737488355328) (hbase : base <= w.heap.size)
  (h : ∀ v' w', w'.ownsRow base e size v' (n + m) (xs ++ news) -> w.grownBy w' v.ownBlock -> (v' = .slice none 0 0 ↔ v = .slice none 0 0 /\ m = 0) -> K (a.put o.dst v') w') :
  if Region.wanted o (yielded ops a.tmps) = true then Oper.wp P o a w K Q else E := by
 have hw : Region.wanted o (yielded ops a.tmps) = true := by simp [Region.wanted, hgd]
 rw [if_pos hw]
 exact wp_append_own w s x t ho base e i z size bytes ht hi hz hsize hby hzs hsz v n xs hs hown ad m c news hx hl hnews h1 h63 hbytes hbase h

theorem Gr.grown {a b c : World} (h : Gr a b) {r : Option Nat} (k : b.grownBy c r) (hr : ∀ g, r = some g -> a.heap.size <= g) : Gr a c := ⟨h.below.grown k h.below.size hr⟩
end Go.Proofs.YthaadiclopoamaaGreatDoor
/- Rows of structs in memory. -/
set_option maxRecDepth 100000
set_option maxHeartbeats 8000000
namespace Go.Proofs.YthaadiclopoamaaGreatDoor
open Go.RowKit

/- a row of structs in memory, cell by cell, its address whatever where there is none -/
def RowAt {α : Type} (f : α -> List Value) (w : World) (ad : Option Addr) (L : List α) : Prop :=
 ∀ j u, (L.flatMap f)[j]? = some u -> ∃ b off, ad = some ⟨b, off, none⟩ /\ b < w.heap.size /\ w.cell? ⟨b, off + j, none⟩ = some u
theorem flat_len {α : Type} {f : α -> List Value} {c : Nat} (hc : ∀ x, (f x).length = c) (L : List α) : (L.flatMap f).length = L.length * c := by
 induction L with
 | nil => simp
 | cons x t ih => rw [List.flatMap_cons, List.length_append, ih, hc, List.length_cons, Nat.add_mul]; omega
theorem flat_get {α : Type} {f : α -> List Value} {c : Nat} (hc : ∀ x, (f x).length = c) (L : List α) : ∀ j (h : j < L.length) i, i < c -> (L.flatMap f)[j * c + i]? = (f L[j])[i]? := by
 induction L with
 | nil => intro j h; simp at h
 | cons x t ih =>
  intro j h i hi
  rw [List.flatMap_cons]
  cases j with
  | zero => rw [Nat.zero_mul, Nat.zero_add, List.getElem?_append_left (by rw [hc]; exact hi)]; rfl
  | succ j =>
   rw [Nat.add_mul, Nat.one_mul, List.getElem?_append_right (by rw [hc]; omega), hc, show j * c + c + i - c = j * c + i by omega, ih j (by simpa using h) i hi]; rfl
theorem RowAt.gr {α : Type} {f : α -> List Value} {w w' : World} {ad : Option Addr} {L : List α} (h : RowAt f w ad L) (g : Gr w w') : RowAt f w' ad L := by
 intro j u hu
 obtain ⟨b, off, e, hb, h1⟩ := h j u hu
 exact ⟨b, off, e, Nat.lt_of_lt_of_le hb g.size, g.keep h1⟩
theorem RowAt.alloc {α : Type} {f : α -> List Value} {w : World} {ad : Option Addr} {L : List α} (h : RowAt f w ad L) {o : Obj} : RowAt f (w.alloc o) ad L := h.gr (Gr.refl _).alloc
theorem RowAt.drew {α : Type} {f : α -> List Value} {w : World} {ad : Option Addr} {L : List α} (h : RowAt f w ad L) : RowAt f w.drew ad L := h.gr (Gr.refl _).drew
theorem RowAt.nil {α : Type} {f : α -> List Value} {w : World} {ad : Option Addr} : RowAt f w ad [] := fun j u h => by simp at h
theorem RowAt.setFar {α : Type} {f : α -> List Value} {w : World} {ad : Option Addr} {L : List α} (h : RowAt f w ad L) (p : Addr) (v : Value) (hp : ∀ a, ad = some a -> p.block ≠ a.block) : RowAt f (w.setCell p v) ad L := by
 intro j u hu
 obtain ⟨b, off, e, hb, h1⟩ := h j u hu
 exact ⟨b, off, e, by simpa using hb, by rw [World.cell?_setCell_far _ _ _ _ (by simpa using hp _ e)]; exact h1⟩
theorem RowAt.news {α : Type} {f : α -> List Value} {w : World} {a : Addr} {L : List α} (h : RowAt f w (some a) L) : ∀ j u, (L.flatMap f)[j]? = some u -> w.cell? (a.add j) = some u := by
 intro j u hu
 obtain ⟨b, off, e, _, h1⟩ := h j u hu
 cases e
 rw [Addr.add_lit]; exact h1
theorem RowAt.none {α : Type} {f : α -> List Value} {c : Nat} (hc : ∀ x, (f x).length = c) (h0 : 0 < c) {w : World} {L : List α} (h : RowAt f w none L) : L = [] := by
 cases L with
 | nil => rfl
 | cons x t =>
  have hl := flat_len hc (x :: t)
  have : 0 < ((x :: t).flatMap f).length := by rw [hl, List.length_cons]; exact Nat.mul_pos (by omega) h0
  obtain ⟨b, off, e, _⟩ := h 0 _ (List.getElem?_eq_getElem this)
  cases e
/- a row that the call owns -/
theorem own_row {α : Type} {f : α -> List Value} {c : Nat} {base : Nat} {t : TypeId} {v : Value} {L : List α} {w : World} (h : w.ownsRow base t c v L.length (L.flatMap f)) :
  ∃ ad cap, v = .slice ad L.length cap /\ L.length <= cap /\ cap <= 9223372036854775807 /\ RowAt f w ad L /\ (∀ a, ad = some a -> base <= a.block) /\ (ad = none -> cap = 0) := by
 have hcell := fun g (hg : v.ownBlock = some g) => h.cells hg
 have hlt := h.lt
 obtain ⟨_, ⟨rfl, h0⟩ | ⟨g, cap, cur, rfl, hx⟩⟩ := h
 ·have : L = [] := List.length_eq_zero_iff.1 h0
  subst this
  exact ⟨none, 0, rfl, by simp, by omega, RowAt.nil, (fun a e => by cases e), fun _ => rfl⟩
 ·have hm : cap <= 9223372036854775807 := by have := hx.2.2.2.1; unfold maxLen at this; omega
  refine ⟨some ⟨g, 0, none⟩, cap, rfl, hx.2.2.1, hm, ?_, (fun a e => by cases e; exact (hlt g rfl).1), fun e => by cases e⟩
  intro j u hu
  have c1 := hcell g rfl _ _ hu
  rw [Addr.add_lit] at c1
  exact ⟨g, 0, rfl, (hlt g rfl).2, c1⟩

end Go.Proofs.YthaadiclopoamaaGreatDoor
/- Nothing has turned but one block. -/
set_option maxRecDepth 100000
set_option maxHeartbeats 8000000
namespace Go.Proofs.YthaadiclopoamaaGreatDoor
open Go.RowKit

/- nothing has turned but one block -/
structure GB (b : Nat) (w w' : World) : Prop where
 g : w.grownBy w' (some b)
theorem GB.ofGr {b : Nat} {w w' : World} (g : Gr w w') : GB b w w' := ⟨⟨g.below.os, g.below.tape, g.below.output, g.size, fun k hk _ => g.below.block k hk⟩⟩
theorem GB.refl (b : Nat) (w : World) : GB b w w := GB.ofGr (Gr.refl _)
theorem GB.size {b : Nat} {w w' : World} (h : GB b w w') : w.heap.size <= w'.heap.size := h.g.size
theorem GB.trans {b : Nat} {u v w : World} (h : GB b u v) (k : GB b v w) : GB b u w := by
 have hs := h.size
 refine ⟨⟨?_, ?_, ?_, Nat.le_trans h.size k.size, ?_⟩⟩
 ·exact k.g.os.trans h.g.os
 ·exact k.g.tape.trans h.g.tape
 ·exact k.g.output.trans h.g.output
 ·intro i hi hne
  exact (k.g.block i (by omega) hne).trans (h.g.block i hi hne)
theorem GB.alloc {b : Nat} {a w : World} (h : GB b a w) {o : Obj} : GB b a (w.alloc o) := h.trans (GB.ofGr (Gr.refl _).alloc)
theorem GB.drew {b : Nat} {a w : World} (h : GB b a w) : GB b a w.drew := h.trans (GB.ofGr (Gr.refl _).drew)
theorem GB.gr {b : Nat} {a w w' : World} (h : GB b a w) (g : Gr w w') : GB b a w' := h.trans (GB.ofGr g)
theorem GB.setNew {b : Nat} {a w : World} (h : GB b a w) (p : Addr) (v : Value) (hp : a.heap.size <= p.block ∨ p.block = b) : GB b a (w.setCell p v) :=
 ⟨⟨h.g.os, h.g.tape, h.g.output, by simpa [World.setCell] using h.size, fun k hk hne => (Below.heap_setCell _ _ _ _ (fun e => by
  rcases hp with hp | hp
  ·omega
  ·exact hne (by rw [e, hp]))).trans (h.g.block k hk hne)⟩⟩
theorem GB.keep {b : Nat} {w w' : World} (h : GB b w w') {g o : Nat} {v : Value} (hg : g < w.heap.size) (hne : g ≠ b) (hc : w.cell? ⟨g, o, none⟩ = some v) : w'.cell? ⟨g, o, none⟩ = some v := by
 rw [<- hc]; exact World.cell?_of_block (w := w) (h.g.block g hg (by simp; omega))
theorem GB.keepF {b : Nat} {w w' : World} (h : GB b w w') {g o : Nat} {v : Bool} (hg : g < w.heap.size) (hne : g ≠ b) (hc : w.frozen? ⟨g, o, none⟩ = v) : w'.frozen? ⟨g, o, none⟩ = v := by
 rw [<- hc]; exact World.frozen?_of_block (w := w) (h.g.block g hg (by simp; omega))
theorem Gr.gb {b : Nat} {a w w' : World} (g : Gr a w) (h : GB b w w') (hb : a.heap.size <= b) : Gr a w' := ⟨g.below.grown h.g g.size (fun k e => by cases e; exact hb)⟩
end Go.Proofs.YthaadiclopoamaaGreatDoor
/- Plain mathematics of pots: what may be, what goes, and what a row of doing, undoing and keeping comes to. -/
set_option maxRecDepth 100000
set_option maxHeartbeats 8000000
namespace Go.Proofs.YthaadiclopoamaaGreatDoor.Pot

def mayB (h i o : Int) : Bool := decide (0 <= i) && decide (i <= h) && decide (0 <= o) && decide (h + o <= 1000000000000000)
def chkE (h i o : Int) : Int := if mayB h i o = true then 0 else 2
/- what is left where an amount goes: the most that may go -/
end Go.Proofs.YthaadiclopoamaaGreatDoor.Pot
/- Plain mathematics of activities: names, what may be, what an activity moves. -/
set_option maxRecDepth 100000
set_option maxHeartbeats 8000000
namespace Go.Proofs.YthaadiclopoamaaGreatDoor.Act

def letB (b : UInt8) : Bool := decide ((97 : Int) <= (b.toNat : Int)) && decide ((b.toNat : Int) <= 122)
def digB (b : UInt8) : Bool := decide ((48 : Int) <= (b.toNat : Int)) && decide ((b.toNat : Int) <= 57)
def sgnB (b : UInt8) : Bool := letB b || digB b
def headB : List UInt8 -> Bool
 | [] => false
 | b :: _ => letB b
def nameB (s : ByteArray) : Bool := decide (s.size <= 16) && headB s.data.toList && s.data.toList.all sgnB

theorem head_get (s : ByteArray) (h : 0 < s.size) : headB s.data.toList = letB (s[0]'h) := by
 have hl : s.data.toList.length = s.size := by simp
 have h0 : s.data.toList[0]'(by omega) = s[0]'h := rfl
 cases hc : s.data.toList with
 | nil => rw [hc] at hl; simp at hl; omega
 | cons b t => simp only [hc] at h0; rw [<- h0]; rfl
theorem head_none (s : ByteArray) (h : s.size = 0) : headB s.data.toList = false := by
 have hl : s.data.toList.length = s.size := by simp
 cases hc : s.data.toList with
 | nil => rfl
 | cons b t => rw [hc] at hl; simp at hl; omega
theorem name_empty (s : ByteArray) (h : s.size = 0) : nameB s = false := by unfold nameB; rw [head_none s h]; simp
theorem name_long (s : ByteArray) (h : 16 < s.size) : nameB s = false := by unfold nameB; rw [decide_eq_false (by omega)]; rfl
theorem name_head (s : ByteArray) (h : 0 < s.size) (hb : letB (s[0]'h) = false) : nameB s = false := by unfold nameB; rw [head_get s h, hb]; simp
theorem name_sign (s : ByteArray) (k : Nat) (h : k < s.size) (hb : sgnB (s[k]'h) = false) : nameB s = false := by
 have hl : s.data.toList.length = s.size := by simp
 have hk : s.data.toList[k]'(by omega) = s[k]'h := rfl
 have : s.data.toList.all sgnB = false := by
  rw [List.all_eq_false]
  exact ⟨_, List.getElem_mem (by omega : k < s.data.toList.length), by rw [hk, hb]; simp⟩
 unfold nameB; rw [this]; simp
theorem name_yes (s : ByteArray) (h : 0 < s.size) (h16 : s.size <= 16) (hb : letB (s[0]'h) = true) (ha : ∀ j (hj : j < s.size), sgnB (s[j]'hj) = true) : nameB s = true := by
 have hl : s.data.toList.length = s.size := by simp
 have : s.data.toList.all sgnB = true := by
  rw [List.all_eq_true]
  intro b hm
  obtain ⟨j, hj, rfl⟩ := List.getElem_of_mem hm
  exact ha j (by omega)
 unfold nameB; rw [this, head_get s h, hb, decide_eq_true h16]; rfl
theorem sgn_let {b : UInt8} (h : letB b = true) : sgnB b = true := by unfold sgnB; rw [h]; rfl
theorem sgn_dig {b : UInt8} (h : digB b = true) : sgnB b = true := by unfold sgnB; rw [h]; simp
theorem sgn_no {b : UInt8} (h : letB b = false) (h2 : digB b = false) : sgnB b = false := by unfold sgnB; rw [h, h2]; rfl
theorem dig_let {b : UInt8} (h : digB b = true) : letB b = false := by
 unfold digB at h
 unfold letB
 simp only [Bool.and_eq_true, decide_eq_true_eq] at h
 rw [decide_eq_false (by omega)]; rfl
theorem name_pos {s : ByteArray} (h : nameB s = true) : 0 < s.size /\ s.size <= 16 := by
 refine ⟨?_, ?_⟩
 ·by_cases hz : s.size = 0
  ·rw [name_empty s hz] at h; cases h
  ·omega
 ·by_cases hz : 16 < s.size
  ·rw [name_long s hz] at h; cases h
  ·omega

/- an activity, an account -/
def actB (k : Int) (s : ByteArray) (n : Int) : Bool := decide (1 <= k) && decide (k <= 4) && nameB s && decide (1 <= n) && decide (n <= 1000000000000000)
def chkE (k : Int) (s : ByteArray) (n : Int) : Int := if actB k s n = true then 0 else 60
theorem act_iff (k : Int) (s : ByteArray) (n : Int) : actB k s n = true ↔ (1 <= k /\ k <= 4) /\ nameB s = true /\ 1 <= n /\ n <= 1000000000000000 := by
 unfold actB; simp only [Bool.and_eq_true, decide_eq_true_eq]; constructor
 ·rintro ⟨⟨⟨⟨a, b⟩, c⟩, d⟩, e⟩; exact ⟨⟨a, b⟩, c, d, e⟩
 ·rintro ⟨⟨a, b⟩, c, d, e⟩; exact ⟨⟨⟨⟨a, b⟩, c⟩, d⟩, e⟩
theorem chk_yes {k : Int} {s : ByteArray} {n : Int} (h : actB k s n = true) : chkE k s n = 0 := by unfold chkE; rw [if_pos h]
theorem chk_no {k : Int} {s : ByteArray} {n : Int} (h : actB k s n = false) : chkE k s n = 60 := by unfold chkE; rw [h]; rfl
def accB (s : ByteArray) (a b c x y z : Int) : Bool := nameB s && Pot.mayB a b c && Pot.mayB x y z
/- what keeps an activity from an account, whatever its pots have -/
def fitE (s : ByteArray) (a b c x y z : Int) (k : Int) (t : ByteArray) (n : Int) : Int := if accB s a b c x y z = true then (if (actB k t n && decide (t = s)) = true then 0 else 60) else 2

/- the ways of an activity: of Free, of Kept -/
def wF (k : Int) : Int := if k = 1 ∨ k = 3 then -1 else if k = 2 ∨ k = 4 then 1 else 0
def wK (k : Int) : Int := if k = 3 then 1 else if k = 4 then -1 else 0
/- what one of pot's calls answers -/
structure Ch where
 h : Bool -> Int -> Int -> Int -> Int -> Int
 i : Bool -> Int -> Int -> Int -> Int -> Int
 o : Bool -> Int -> Int -> Int -> Int -> Int
 e : Bool -> Int -> Int -> Int -> Int -> Int
/- the way of an activity with each pot, as a call of pot's takes it -/
def oF (k : Int) : Bool := decide (wF k < 0)
def oK (k : Int) : Bool := decide (wK k < 0)
def eK (C : Ch) (k x y z n : Int) : Int := if wK k = 0 then 0 else C.e (oK k) x y z n
def hK (C : Ch) (k x y z n : Int) : Int := if wK k = 0 then x else C.h (oK k) x y z n
/- the error of a call with an account, and the account -/
def mvE (C : Ch) (s : ByteArray) (a b c x y z : Int) (k : Int) (t : ByteArray) (n : Int) : Int :=
 if fitE s a b c x y z k t n = 0 then (if C.e (oF k) a b c n = 0 then eK C k x y z n else C.e (oF k) a b c n) else fitE s a b c x y z k t n
end Go.Proofs.YthaadiclopoamaaGreatDoor.Act
/- Plain mathematics of tokens: words, numbers, signs, and how a text is cut. -/
set_option maxRecDepth 100000
set_option maxHeartbeats 8000000
namespace Go.Proofs.YthaadiclopoamaaGreatDoor.Lex
open _root_.Go.Proofs.YthaadiclopoamaaGreatDoor.Act (letB digB sgnB nameB headB)

structure Tok where
 k : Int
 t : ByteArray
 p : Int

def blkB (b : UInt8) : Bool := decide ((b.toNat : Int) = 32) || decide ((b.toNat : Int) = 9) || decide ((b.toNat : Int) = 10)
def remB (b : UInt8) : Bool := !decide ((b.toNat : Int) = 10)

/- how many bytes of a kind stand ahead -/
def run (p : UInt8 -> Bool) : List UInt8 -> Nat
 | [] => 0
 | b :: t => if p b = true then run p t + 1 else 0
theorem run_le (p : UInt8 -> Bool) (l : List UInt8) : run p l <= l.length := by
 induction l with
 | nil => simp [run]
 | cons b t ih =>
  rw [run]; split
  ·simp; omega
  ·simp
theorem run_yes {p : UInt8 -> Bool} {b : UInt8} (t : List UInt8) (h : p b = true) : run p (b :: t) = run p t + 1 := by rw [run, if_pos h]
theorem run_no {p : UInt8 -> Bool} {b : UInt8} (t : List UInt8) (h : p b = false) : run p (b :: t) = 0 := by rw [run, h]; rfl
theorem run_eq (p : UInt8 -> Bool) : ∀ (l : List UInt8) (k : Nat), k <= l.length -> (∀ j (hj : j < l.length), j < k -> p l[j] = true) -> (∀ h : k < l.length, p l[k] = false) -> run p l = k := by
 intro l
 induction l with
 | nil => intro k hk _ _; simp at hk; rw [hk]; rfl
 | cons b t ih =>
  intro k hk ha he
  cases k with
  | zero => exact run_no t (he (by simp))
  | succ k =>
   have h0 : p b = true := ha 0 (by simp) (by omega)
   rw [run_yes t h0]
   rw [ih k (by simpa using hk) (fun j hj h => by have := ha (j + 1) (by simpa using hj) (by omega); simpa using this) (fun h => by have := he (by simpa using h); simpa using this)]
/- numbers, signs -/
def zeroB : List UInt8 -> Bool
 | [] => false
 | b :: _ => decide ((b.toNat : Int) = 48)
def numB (s : ByteArray) : Bool := decide (1 <= s.size) && decide (s.size <= 16) && s.data.toList.all digB && (decide (s.size = 1) || !zeroB s.data.toList)
def sigB (s : ByteArray) : Bool := decide (s = ⟨#[123]⟩) || decide (s = ⟨#[125]⟩) || decide (s = ⟨#[59]⟩)
def mayB (k : Int) (s : ByteArray) : Bool := if k = 1 then nameB s else if k = 2 then numB s else if k = 3 then sigB s else false
def kd (s : ByteArray) : Int := if sigB s = true then 3 else if numB s = true then 2 else if nameB s = true then 1 else 0

theorem all_get {p : UInt8 -> Bool} (s : ByteArray) (h : s.data.toList.all p = true) (k : Nat) (hk : k < s.size) : p (s[k]'hk) = true := by
 rw [List.all_eq_true] at h
 exact h _ (List.getElem_mem (show k < s.data.toList.length by simpa using hk))
theorem all_of {p : UInt8 -> Bool} (s : ByteArray) (h : ∀ k (hk : k < s.size), p (s[k]'hk) = true) : s.data.toList.all p = true := by
 rw [List.all_eq_true]
 intro b hb
 obtain ⟨j, hj, rfl⟩ := List.getElem_of_mem hb
 exact h j (by simpa using hj)
theorem all_not {p : UInt8 -> Bool} (s : ByteArray) (k : Nat) (hk : k < s.size) (h : p (s[k]'hk) = false) : s.data.toList.all p = false := by
 rw [List.all_eq_false]
 exact ⟨_, List.getElem_mem (show k < s.data.toList.length by simpa using hk), by show ¬ (p (s[k]'hk) = true); rw [h]; simp⟩
theorem zero_get (s : ByteArray) (h : 0 < s.size) : zeroB s.data.toList = decide (((s[0]'h).toNat : Int) = 48) := by
 have hl : s.data.toList.length = s.size := by simp
 have h0 : s.data.toList[0]'(by omega) = s[0]'h := rfl
 cases hc : s.data.toList with
 | nil => rw [hc] at hl; simp at hl; omega
 | cons b t => simp only [hc] at h0; rw [<- h0]; rfl
theorem num_empty (s : ByteArray) (h : s.size = 0) : numB s = false := by unfold numB; rw [decide_eq_false (by omega)]; rfl
theorem num_long (s : ByteArray) (h : 16 < s.size) : numB s = false := by
 unfold numB
 rw [show decide (s.size <= 16) = false from decide_eq_false (by omega)]; simp
theorem num_sign (s : ByteArray) (k : Nat) (h : k < s.size) (hb : digB (s[k]'h) = false) : numB s = false := by
 unfold numB
 rw [all_not s k h hb]; simp
theorem num_all (s : ByteArray) (h0 : 1 <= s.size) (h1 : s.size <= 16) (ha : ∀ k (hk : k < s.size), digB (s[k]'hk) = true) : numB s = (decide (s.size = 1) || !decide (((s[0]'h0).toNat : Int) = 48)) := by
 unfold numB
 rw [all_of s ha, decide_eq_true h0, decide_eq_true h1, zero_get s h0]; rfl
theorem num_parts {s : ByteArray} (h : numB s = true) : 1 <= s.size /\ s.size <= 16 /\ (∀ k (hk : k < s.size), digB (s[k]'hk) = true) := by
 unfold numB at h
 simp only [Bool.and_eq_true, decide_eq_true_eq] at h
 exact ⟨h.1.1.1, h.1.1.2, fun k hk => all_get s h.1.2 k hk⟩
theorem sig_parts {s : ByteArray} (h : sigB s = true) : s = ⟨#[123]⟩ ∨ s = ⟨#[125]⟩ ∨ s = ⟨#[59]⟩ := by
 unfold sigB at h
 simp only [Bool.or_eq_true, decide_eq_true_eq] at h
 rcases h with (h | h) | h
 ·exact Or.inl h
 ·exact Or.inr (Or.inl h)
 ·exact Or.inr (Or.inr h)

/- what stands at the beginning, taken for a token -/
def tl : List UInt8 -> Nat
 | [] => 0
 | b :: t => if letB b = true then run sgnB t + 1 else if digB b = true then run digB t + 1 else 1
def pc (l : List UInt8) : ByteArray := ⟨(l.take (tl l)).toArray⟩
theorem tl_pos (b : UInt8) (t : List UInt8) : 1 <= tl (b :: t) := by
 rw [tl]
 split
 ·omega
 ·split <;> omega
theorem tl_le (l : List UInt8) : tl l <= l.length := by
 cases l with
 | nil => simp [tl]
 | cons b t =>
  unfold tl
  have h1 := run_le sgnB t
  have h2 := run_le digB t
  simp only [List.length_cons]
  split
  ·omega
  ·split <;> omega
theorem tl_let {b : UInt8} (t : List UInt8) (h : letB b = true) : tl (b :: t) = run sgnB (b :: t) := by rw [run_yes t (Act.sgn_let h), tl, if_pos h]
theorem tl_dig {b : UInt8} (t : List UInt8) (h0 : letB b = false) (h : digB b = true) : tl (b :: t) = run digB (b :: t) := by rw [run_yes t h, tl, h0, if_neg (by simp), if_pos h]
theorem tl_one {b : UInt8} (t : List UInt8) (h0 : letB b = false) (h : digB b = false) : tl (b :: t) = 1 := by rw [tl, h0, h, if_neg (by simp), if_neg (by simp)]
theorem pc_size (l : List UInt8) : (pc l).size = tl l := by
 have := tl_le l
 show (List.toArray _).size = _
 simp; omega
theorem pc_list (l : List UInt8) : (pc l).data.toList = l.take (tl l) := by simp [pc]

theorem head_let {b : UInt8} {t : List UInt8} (s : ByteArray) (h : s.data.toList = b :: t) (hb : letB b = true) : sigB s = false /\ numB s = false := by
 have h2 : digB b = false := by
  cases hd : digB b with
  | false => rfl
  | true => rw [Act.dig_let hd] at hb; cases hb
 have hk : (97 : Int) <= (b.toNat : Int) /\ (b.toNat : Int) <= 122 := by unfold letB at hb; simpa only [Bool.and_eq_true, decide_eq_true_eq] using hb
 constructor
 ·cases hs : sigB s with
  | false => rfl
  | true =>
   rcases sig_parts hs with rfl | rfl | rfl <;> (simp at h; rw [<- h.1] at hk; simp at hk)
 ·unfold numB; rw [h, List.all_cons, h2]; simp
theorem head_dig {b : UInt8} {t : List UInt8} (s : ByteArray) (h : s.data.toList = b :: t) (hb : digB b = true) : sigB s = false /\ nameB s = false := by
 have h2 := Act.dig_let hb
 have hk : (48 : Int) <= (b.toNat : Int) /\ (b.toNat : Int) <= 57 := by unfold digB at hb; simpa only [Bool.and_eq_true, decide_eq_true_eq] using hb
 constructor
 ·cases hs : sigB s with
  | false => rfl
  | true =>
   rcases sig_parts hs with rfl | rfl | rfl <;> (simp at h; rw [<- h.1] at hk; simp at hk)
 ·unfold nameB; rw [h, show headB (b :: t) = letB b from rfl, h2]; simp
theorem head_else {b : UInt8} {t : List UInt8} (s : ByteArray) (h : s.data.toList = b :: t) (h1 : letB b = false) (h2 : digB b = false) : numB s = false /\ nameB s = false := by
 constructor
 ·unfold numB; rw [h, List.all_cons, h2]; simp
 ·unfold nameB; rw [h, show headB (b :: t) = letB b from rfl, h1]; simp
theorem pc_cons (b : UInt8) (t : List UInt8) : ∃ u, (pc (b :: t)).data.toList = b :: u := by
 rw [pc_list]
 have := tl_pos b t
 obtain ⟨n, hn⟩ : ∃ n, tl (b :: t) = n + 1 := ⟨tl (b :: t) - 1, by omega⟩
 rw [hn, List.take_succ_cons]
 exact ⟨_, rfl⟩
/- the kind by the first byte -/
def fk (b : UInt8) : Int := if letB b = true then 1 else if digB b = true then 2 else 3
theorem kd_first (b : UInt8) (t : List UInt8) : kd (pc (b :: t)) = if mayB (fk b) (pc (b :: t)) = true then fk b else 0 := by
 obtain ⟨u, hu⟩ := pc_cons b t
 unfold fk
 cases h1 : letB b with
 | true =>
  obtain ⟨a1, a2⟩ := head_let _ hu h1
  unfold kd mayB
  rw [a1, a2]; simp
 | false =>
  cases h2 : digB b with
  | true =>
   obtain ⟨a1, a2⟩ := head_dig _ hu h2
   unfold kd mayB
   rw [a1, a2]; simp
  | false =>
   obtain ⟨a1, a2⟩ := head_else _ hu h1 h2
   unfold kd mayB
   rw [a1, a2]; simp

/- a text, cut from its beginning on: the tokens, and where no token goes on -/
def scn : Nat -> List UInt8 -> Nat -> List Tok × Option Nat
 | 0, _, _ => ([], none)
 | _ + 1, [], at' => ([⟨0, ⟨#[]⟩, at'⟩], none)
 | f + 1, b :: t, at' =>
  if blkB b = true then scn f t (at' + 1)
  else if (b.toNat : Int) = 35 then scn f ((b :: t).drop (run remB (b :: t))) (at' + run remB (b :: t))
  else if kd (pc (b :: t)) = 0 then ([], some at')
  else (⟨kd (pc (b :: t)), pc (b :: t), at'⟩ :: (scn f ((b :: t).drop (tl (b :: t))) (at' + tl (b :: t))).1, (scn f ((b :: t).drop (tl (b :: t))) (at' + tl (b :: t))).2)
theorem rem_pos {b : UInt8} (t : List UInt8) (h : (b.toNat : Int) = 35) : 1 <= run remB (b :: t) := by
 rw [run_yes t (by unfold remB; rw [decide_eq_false (by omega)]; rfl)]; omega
theorem scn_fuel : ∀ (f g : Nat) (l : List UInt8) (a : Nat), l.length < f -> l.length < g -> scn f l a = scn g l a := by
 intro f
 induction f with
 | zero => intro g l a h; omega
 | succ f ih =>
  intro g l a hf hg
  cases g with
  | zero => omega
  | succ g =>
   cases l with
   | nil => rfl
   | cons b t =>
    simp only [List.length_cons] at hf hg
    unfold scn
    split
    ·exact ih g t _ (by omega) (by omega)
    ·split
     ·rename_i h35
      have := rem_pos t h35
      exact ih g _ _ (by simp; omega) (by simp; omega)
     ·have := tl_pos b t
      rw [ih g ((b :: t).drop (tl (b :: t))) _ (by simp; omega) (by simp; omega)]
def S (l : List UInt8) (a : Nat) : List Tok × Option Nat := scn (l.length + 1) l a
theorem S_nil (a : Nat) : S [] a = ([⟨0, ⟨#[]⟩, a⟩], none) := rfl
theorem S_blank {b : UInt8} (t : List UInt8) (a : Nat) (h : blkB b = true) : S (b :: t) a = S t (a + 1) := by
 unfold S; rw [List.length_cons, scn, if_pos h]
theorem S_rem {b : UInt8} (t : List UInt8) (a : Nat) (h : blkB b = false) (h2 : (b.toNat : Int) = 35) : S (b :: t) a = S ((b :: t).drop (run remB (b :: t))) (a + run remB (b :: t)) := by
 have := rem_pos t h2
 unfold S; rw [List.length_cons, scn, h, if_neg (by simp), if_pos h2]
 exact scn_fuel _ _ _ _ (by simp; omega) (by simp)
theorem S_bad {b : UInt8} (t : List UInt8) (a : Nat) (h : blkB b = false) (h2 : ¬ (b.toNat : Int) = 35) (h3 : kd (pc (b :: t)) = 0) : S (b :: t) a = ([], some a) := by
 unfold S; rw [List.length_cons, scn, h, if_neg (by simp), if_neg h2, if_pos h3]
theorem S_tok {b : UInt8} (t : List UInt8) (a : Nat) (h : blkB b = false) (h2 : ¬ (b.toNat : Int) = 35) (h3 : ¬ kd (pc (b :: t)) = 0) :
  S (b :: t) a = (⟨kd (pc (b :: t)), pc (b :: t), a⟩ :: (S ((b :: t).drop (tl (b :: t))) (a + tl (b :: t))).1, (S ((b :: t).drop (tl (b :: t))) (a + tl (b :: t))).2) := by
 have := tl_pos b t
 unfold S; rw [List.length_cons, scn, h, if_neg (by simp), if_neg h2, if_neg h3]
 rw [scn_fuel (t.length + 1) (((b :: t).drop (tl (b :: t))).length + 1) _ _ (by simp; omega) (by simp)]
theorem S_blanks (l : List UInt8) : ∀ a, S l a = S (l.drop (run blkB l)) (a + run blkB l) := by
 induction l with
 | nil => intro a; rfl
 | cons b t ih =>
  intro a
  cases h : blkB b with
  | false => rw [run_no t h]; simp
  | true =>
   rw [run_yes t h, S_blank t a h, ih (a + 1), List.drop_succ_cons]
   rw [show a + 1 + run blkB t = a + (run blkB t + 1) by omega]

/- one step from a place of a text -/
theorem drop_get (L : List UInt8) (k : Nat) (h : k < L.length) : L.drop k = L[k] :: L.drop (k + 1) := (List.getElem_cons_drop h).symm
/- the answer of Scan -/
def scF (L : List UInt8) : Int := if 2000 < L.length then 3 else if (S L 0).2 = none then 0 else 80
def scA (L : List UInt8) : Int := if 2000 < L.length then 0 else match (S L 0).2 with | none => 0 | some p => (p : Int)
def scT (L : List UInt8) : List Tok := if 2000 < L.length then [] else match (S L 0).2 with | none => (S L 0).1 | some _ => []
end Go.Proofs.YthaadiclopoamaaGreatDoor.Lex
/- Plain mathematics of rows of tokens: what may be, their text, values. -/
set_option maxRecDepth 100000
set_option maxHeartbeats 8000000
namespace Go.Proofs.YthaadiclopoamaaGreatDoor.Lex
open _root_.Go.Proofs.YthaadiclopoamaaGreatDoor.Act (letB digB sgnB nameB headB)

def endT (x : Tok) : Bool := decide (x.k = 0) && decide (x.t = ⟨#[]⟩)
def okT (x : Tok) : Bool := mayB x.k x.t
def szs (I : List Tok) : Nat := (I.map (fun x => x.t.size)).sum
def jz (I : List Tok) : Nat := szs I + (I.length - 1)
def ckE (T : List Tok) : Int := match T.getLast? with
 | none => 80
 | some x => if endT x = true then (if T.dropLast.all okT = true then (if 2000 < jz T.dropLast then 3 else 0) else 80) else 80
theorem szs_snoc (I : List Tok) (x : Tok) : szs (I ++ [x]) = szs I + x.t.size := by simp [szs]
theorem szs_take (I : List Tok) (i : Nat) (h : i < I.length) : szs (I.take (i + 1)) = szs (I.take i) + I[i].t.size := by
 rw [List.take_succ_eq_append_getElem h, szs_snoc]
theorem szs_le (I : List Tok) : ∀ i, szs (I.take i) <= szs I := by
 induction I with
 | nil => intro i; simp [szs]
 | cons x t ih =>
  intro i
  cases i with
  | zero => simp [szs]
  | succ i => have := ih i; simp [szs] at this ⊢; omega
theorem may_size {k : Int} {s : ByteArray} (h : mayB k s = true) : 1 <= s.size /\ s.size <= 16 := by
 unfold mayB at h
 split at h
 ·have := Act.name_pos h; omega
 ·split at h
  ·have := num_parts h; exact ⟨this.1, this.2.1⟩
  ·split at h
   ·rcases sig_parts h with rfl | rfl | rfl <;> decide
   ·cases h
theorem szs_bound (I : List Tok) (h : ∀ x ∈ I, okT x = true) : szs I <= 16 * I.length := by
 induction I with
 | nil => simp [szs]
 | cons x t ih =>
  have h1 := ih (fun y hy => h y (by simp [hy]))
  have h2 := (may_size (h x (by simp))).2
  simp [szs] at h1 ⊢; omega
theorem ck_none : ckE [] = 80 := rfl
theorem ck_snoc (I : List Tok) (x : Tok) : ckE (I ++ [x]) = if endT x = true then (if I.all okT = true then (if 2000 < jz I then 3 else 0) else 80) else 80 := by
 unfold ckE; simp
theorem all_idx (I : List Tok) (p : Tok -> Bool) (h : ∀ j (hj : j < I.length), p I[j] = true) : I.all p = true := by
 rw [List.all_eq_true]
 intro x hx
 obtain ⟨j, hj, rfl⟩ := List.getElem_of_mem hx
 exact h j hj
theorem all_nidx (I : List Tok) (p : Tok -> Bool) (j : Nat) (hj : j < I.length) (h : p I[j] = false) : I.all p = false := by
 rw [List.all_eq_false]
 exact ⟨I[j], List.getElem_mem hj, by rw [h]; simp⟩

/- the text of tokens -/
theorem jz_take (I : List Tok) (i : Nat) (h : i < I.length) : jz (I.take (i + 1)) = jz (I.take i) + (if i = 0 then 0 else 1) + I[i].t.size := by
 unfold jz
 rw [szs_take I i h]
 have h1 : (I.take i).length = i := by rw [List.length_take]; omega
 have h2 : (I.take (i + 1)).length = i + 1 := by rw [List.length_take]; omega
 rw [h1, h2]
 split <;> omega
theorem jz_le (I : List Tok) (i : Nat) : jz (I.take i) <= jz I := by
 unfold jz
 have := szs_le I i
 rw [List.length_take]; omega
/- the value of a number -/
def vl : List UInt8 -> Int -> Int
 | [], n => n
 | b :: t, n => vl t (n * 10 + ((b.toNat : Int) - 48))
def valE (k : Int) (s : ByteArray) : Int := if k = 2 /\ numB s = true then vl s.data.toList 0 else 0
def valB (k : Int) (s : ByteArray) : Bool := decide (k = 2) && numB s
theorem vl_snoc (l : List UInt8) (b : UInt8) : ∀ n, vl (l ++ [b]) n = vl l n * 10 + ((b.toNat : Int) - 48) := by
 induction l with
 | nil => intro n; rfl
 | cons c t ih => intro n; exact ih _
theorem vl_take (l : List UInt8) (k : Nat) (h : k < l.length) : vl (l.take (k + 1)) 0 = vl (l.take k) 0 * 10 + ((l[k].toNat : Int) - 48) := by
 rw [List.take_succ_eq_append_getElem h, vl_snoc]
theorem vl_bound : ∀ (l : List UInt8) (n : Int), 0 <= n -> (∀ b ∈ l, digB b = true) -> 0 <= vl l n /\ vl l n < (n + 1) * 10 ^ l.length := by
 intro l
 induction l with
 | nil => intro n hn _; simp [vl]; omega
 | cons b t ih =>
  intro n hn hd
  have hb : digB b = true := hd b (by simp)
  have hk : (48 : Int) <= (b.toNat : Int) /\ (b.toNat : Int) <= 57 := by unfold Act.digB at hb; simpa only [Bool.and_eq_true, decide_eq_true_eq] using hb
  obtain ⟨h1, h2⟩ := ih (n * 10 + ((b.toNat : Int) - 48)) (by omega) (fun c hc => hd c (by simp [hc]))
  refine ⟨h1, Int.lt_of_lt_of_le h2 ?_⟩
  rw [List.length_cons, Int.pow_succ]
  have : (n * 10 + ((b.toNat : Int) - 48) + 1) <= (n + 1) * 10 := by omega
  have h3 : (0 : Int) <= 10 ^ t.length := Int.pow_nonneg (by omega)
  calc (n * 10 + ((b.toNat : Int) - 48) + 1) * 10 ^ t.length <= ((n + 1) * 10) * 10 ^ t.length := Int.mul_le_mul_of_nonneg_right this h3
   _ = (n + 1) * (10 ^ t.length * 10) := by rw [Int.mul_assoc, Int.mul_comm 10]
theorem vl_rng (l : List UInt8) (hl : l.length <= 16) (hd : ∀ b ∈ l, digB b = true) : 0 <= vl l 0 /\ vl l 0 < 10000000000000000 := by
 obtain ⟨h1, h2⟩ := vl_bound l 0 (by omega) hd
 refine ⟨h1, Int.lt_of_lt_of_le h2 ?_⟩
 have h := Nat.pow_le_pow_right (show 0 < 10 by omega) hl
 have e : ((10 : Int) ^ l.length) = ((10 ^ l.length : Nat) : Int) := by simp
 rw [e]
 omega
end Go.Proofs.YthaadiclopoamaaGreatDoor.Lex
/- Plain mathematics of the texts of ids: a text cut at its first sign; what is shown. -/
set_option maxRecDepth 100000
set_option maxHeartbeats 8000000
namespace Go.Proofs.YthaadiclopoamaaGreatDoor.Idn

def cut3 : List UInt8 -> UInt8 -> List UInt8 × List UInt8 × Bool
 | [], _ => ([], [], false)
 | b :: l, c => if b = c then ([], l, true) else (b :: (cut3 l c).1, (cut3 l c).2.1, (cut3 l c).2.2)

theorem index_cut (l : List UInt8) (c : UInt8) :
  (Lib.indexByte l c = -1 /\ cut3 l c = (l, [], false)) ∨ (∃ i : Nat, Lib.indexByte l c = i /\ i < l.length /\ cut3 l c = (l.take i, l.drop (i + 1), true)) := by
 induction l with
 | nil => exact Or.inl ⟨rfl, rfl⟩
 | cons b l ih =>
  unfold Lib.indexByte cut3
  by_cases h : b = c
  ·right
   exact ⟨0, by simp [h], by simp, by simp [h]⟩
  ·have h' : (b == c) = false := by simpa using h
   rcases ih with ⟨h1, h2⟩ | ⟨i, h1, h2, h3⟩
   ·left
    rw [h', h1, h2]
    simp [h]
   ·right
    have hne : ((i : Int) == -1) = false := by rw [beq_eq_false_iff_ne]; omega
    refine ⟨i + 1, ?_, by simp; omega, ?_⟩
    ·rw [h', h1, hne]; simp
    ·rw [if_neg h, h3]; simp

/- the text of an id -/
def hopT (h : Int × Int) : List UInt8 := 47 :: (Lib.decDigits h.1.toNat ++ 64 :: Lib.decDigits h.2.toNat)
def showT (r n : Int) (L : List (Int × Int)) : List UInt8 := Lib.decDigits r.toNat ++ 46 :: Lib.decDigits n.toNat ++ L.flatMap hopT
end Go.Proofs.YthaadiclopoamaaGreatDoor.Idn
/- Rows of strings in memory, and small laws on them. -/
set_option maxRecDepth 100000
set_option maxHeartbeats 8000000
namespace Go.Proofs.YthaadiclopoamaaGreatDoor
open Go.RowKit


/- a row of strings in memory, its address whatever where there is none -/
def StrsAt (w : World) (ad : Option Addr) (L : List ByteArray) : Prop :=
 ∀ j (h : j < L.length), ∃ b off, ad = some ⟨b, off, none⟩ /\ b < w.heap.size /\ w.cell? ⟨b, off + j, none⟩ = some (.string L[j])
theorem StrsAt.gr {w w' : World} {ad : Option Addr} {L : List ByteArray} (h : StrsAt w ad L) (g : Gr w w') : StrsAt w' ad L := by
 intro j hj
 obtain ⟨b, off, e, hb, hc⟩ := h j hj
 exact ⟨b, off, e, Nat.lt_of_lt_of_le hb g.size, (g.below.cell (p := ⟨b, off + j, none⟩) hb).trans hc⟩

theorem mk_data (s : ByteArray) : (⟨s.data.toList.toArray⟩ : ByteArray) = s := by simp


/- a row of strings that the call owns -/
end Go.Proofs.YthaadiclopoamaaGreatDoor
