/- Parts of these proofs, laid together. -/
import Derived.Test.YthaadiclopoamaaGreatDoorGB
import Derived.Test.YthaadiclopoamaaGreatDoorGA
import Derived.Test.YthaadiclopoamaaGreatDoorShelf
import Derived.BigRegion
import Derived.WalkSmall
/- Plain mathematics of cutting: moved texts, texts of tokens, places. -/
set_option maxRecDepth 100000
set_option maxHeartbeats 8000000
namespace Go.Proofs.YthaadiclopoamaaGreatDoor.Lex
open _root_.Go.Proofs.YthaadiclopoamaaGreatDoor.Act (letB digB sgnB nameB headB)

/- what is cut from a later place on is the same, moved -/
/- a token that may be, and what may stand behind it, is cut so -/
def gap : List UInt8 -> Bool
 | [] => true
 | b :: _ => !sgnB b
theorem run_app (p : UInt8 -> Bool) (x r : List UInt8) (hx : x.all p = true) (hr : ∀ b t, r = b :: t -> p b = false) : run p (x ++ r) = x.length := by
 induction x with
 | nil =>
  cases r with
  | nil => rfl
  | cons b t => exact run_no t (hr b t rfl)
 | cons b t ih =>
  rw [List.all_cons, Bool.and_eq_true] at hx
  rw [List.cons_append, run_yes _ hx.1, ih hx.2]; rfl
theorem list_bytes {x y : ByteArray} (h : x.data.toList = y.data.toList) : x = y := by
 cases x with
 | mk a => cases y with
  | mk b => simp at h; rw [h]
theorem bytes_list (x : ByteArray) : (⟨x.data.toList.toArray⟩ : ByteArray) = x := list_bytes (by simp)
theorem not_blk {b : UInt8} (h : 33 <= b.toNat) : blkB b = false := by
 unfold blkB; rw [decide_eq_false (by omega), decide_eq_false (by omega), decide_eq_false (by omega)]; rfl
theorem may_cut (k : Int) (x : ByteArray) (r : List UInt8) (h : mayB k x = true) (hr : gap r = true) :
  ∃ b t, x.data.toList ++ r = b :: t /\ blkB b = false /\ ¬ (b.toNat : Int) = 35 /\ tl (b :: t) = x.size /\ pc (b :: t) = x /\ kd x = k /\ k ≠ 0 := by
 have hsz := may_size h
 have hl : x.data.toList.length = x.size := by simp
 obtain ⟨b, u, hxu⟩ : ∃ b u, x.data.toList = b :: u := by
  cases hc : x.data.toList with
  | nil => rw [hc] at hl; simp at hl; omega
  | cons b u => exact ⟨b, u, rfl⟩
 have hpc : ∀ t, tl (b :: t) = x.size -> b :: t = x.data.toList ++ r -> pc (b :: t) = x := by
  intro t ht he
  apply list_bytes
  rw [pc_list, ht, he, <- hl, List.take_left]
 have hrs : ∀ c t, r = c :: t -> sgnB c = false := by
  intro c t e
  rw [e] at hr
  simpa [gap] using hr
 have hrd : ∀ c t, r = c :: t -> digB c = false := by
  intro c t e
  have := hrs c t e
  unfold Act.sgnB at this
  rw [Bool.or_eq_false_iff] at this
  exact this.2
 unfold mayB at h
 split at h
 ·rename_i hk
  have hall : x.data.toList.all sgnB = true := by unfold Act.nameB at h; simp only [Bool.and_eq_true] at h; exact h.2
  have hhd : letB b = true := by unfold Act.nameB at h; rw [hxu] at h; simp only [Bool.and_eq_true] at h; exact h.1.2
  have hr97 : 97 <= b.toNat /\ b.toNat <= 122 := by unfold Act.letB at hhd; simp only [Bool.and_eq_true, decide_eq_true_eq] at hhd; omega
  have ht : tl (b :: (u ++ r)) = x.size := by
   rw [tl_let _ hhd, show b :: (u ++ r) = x.data.toList ++ r by rw [hxu]; rfl, run_app sgnB _ r hall hrs, hl]
  obtain ⟨q1, q2⟩ := head_let x hxu hhd
  refine ⟨b, u ++ r, by rw [hxu]; rfl, not_blk (by omega), by omega, ht, hpc _ ht (by rw [hxu]; rfl), ?_, by omega⟩
  unfold kd
  rw [q1, q2, h, hk]; rfl
 ·split at h
  ·rename_i hk
   have hall : x.data.toList.all digB = true := by unfold numB at h; simp only [Bool.and_eq_true] at h; exact h.1.2
   have hhd : digB b = true := by rw [hxu, List.all_cons, Bool.and_eq_true] at hall; exact hall.1
   have hr48 : 48 <= b.toNat /\ b.toNat <= 57 := by have h5 := hhd; unfold Act.digB at h5; simp only [Bool.and_eq_true, decide_eq_true_eq] at h5; omega
   have ht : tl (b :: (u ++ r)) = x.size := by
    rw [tl_dig _ (Act.dig_let hhd) hhd, show b :: (u ++ r) = x.data.toList ++ r by rw [hxu]; rfl, run_app digB _ r hall hrd, hl]
   obtain ⟨q1, q2⟩ := head_dig x hxu hhd
   refine ⟨b, u ++ r, by rw [hxu]; rfl, not_blk (by omega), by omega, ht, hpc _ ht (by rw [hxu]; rfl), ?_, by omega⟩
   unfold kd
   rw [q1, h, hk]; rfl
  ·split at h
   ·rename_i hk
    have hcase : ∃ c : UInt8, x = ⟨#[c]⟩ /\ letB c = false /\ digB c = false /\ blkB c = false /\ ¬ (c.toNat : Int) = 35 := by
     rcases sig_parts h with e | e | e
     ·exact ⟨123, e, by decide, by decide, by decide, by decide⟩
     ·exact ⟨125, e, by decide, by decide, by decide, by decide⟩
     ·exact ⟨59, e, by decide, by decide, by decide, by decide⟩
    obtain ⟨c, hx1, c1, c2, c3, c4⟩ := hcase
    have hx2 : x.data.toList = [c] := by rw [hx1]
    have hs1 : x.size = 1 := by rw [hx1]; rfl
    have ht : tl (c :: r) = x.size := by rw [tl_one r c1 c2, hs1]
    refine ⟨c, r, by rw [hx2]; rfl, c3, c4, ht, ?_, ?_, by omega⟩
    ·apply list_bytes
     rw [pc_list, ht, hs1, hx2]; rfl
    ·unfold kd
     rw [h, hk]; rfl
   ·cases h

/- tokens are cut from their text as they are -/
def but (x y : Tok) : Prop := x.k = y.k /\ x.t = y.t
def butL : List Tok -> List Tok -> Prop
 | [], [] => True
 | x :: t, y :: u => but x y /\ butL t u
 | _, _ => False
theorem butL_len : ∀ (L M : List Tok), butL L M -> L.length = M.length := by
 intro L
 induction L with
 | nil => intro M h; cases M with
  | nil => rfl
  | cons y u => exact h.elim
 | cons x t ih => intro M h; cases M with
  | nil => exact h.elim
  | cons y u => rw [List.length_cons, List.length_cons, ih u h.2]
theorem butL_get : ∀ (L M : List Tok), butL L M -> ∀ j (h1 : j < L.length) (h2 : j < M.length), L[j].k = M[j].k /\ L[j].t = M[j].t := by
 intro L
 induction L with
 | nil => intro M _ j h1; simp at h1
 | cons x t ih => intro M h; cases M with
  | nil => exact h.elim
  | cons y u =>
   intro j h1 h2
   cases j with
   | zero => exact h.1
   | succ j => exact ih u h.2 j (by simpa using h1) (by simpa using h2)
theorem scn_len : ∀ (f : Nat) (l : List UInt8) (a : Nat), (scn f l a).1.length <= l.length + 1 := by
 intro f
 induction f with
 | zero => intro l a; simp [scn]
 | succ f ih =>
  intro l a
  cases l with
  | nil => simp [scn]
  | cons b t =>
   unfold scn
   split
   ·have := ih t (a + 1); simp; omega
   ·split
    ·have := ih ((b :: t).drop (run remB (b :: t))) (a + run remB (b :: t))
     rw [List.length_drop] at this
     omega
    ·split
     ·simp
     ·have h1 := ih ((b :: t).drop (tl (b :: t))) (a + tl (b :: t))
      have h2 := tl_pos b t
      have h3 := tl_le (b :: t)
      simp only [List.length_drop, List.length_cons] at h1 h3 ⊢
      omega
theorem scT_len (l : List UInt8) : (scT l).length <= 2001 := by
 unfold scT
 split
 ·simp
 ·split
  ·have := scn_len (l.length + 1) l 0
   unfold S
   omega
  ·simp

end Go.Proofs.YthaadiclopoamaaGreatDoor.Lex
/- Plain mathematics of definitions: steps, what may be, how tokens are read. -/
set_option maxRecDepth 100000
set_option maxHeartbeats 8000000
namespace Go.Proofs.YthaadiclopoamaaGreatDoor.Df
open _root_.Go.Proofs.YthaadiclopoamaaGreatDoor.Act (nameB actB)
open _root_.Go.Proofs.YthaadiclopoamaaGreatDoor.Lex (Tok mayB numB sigB vl valE okT endT)

structure Stp where
 k : Int
 a : ByteArray
 n : Int
 o : Int
 u : ByteArray
 y : Int
 v : Int

/- what may be -/
def ownB (s : Stp) : Bool := decide (s.u = ⟨#[]⟩) && actB s.k s.a s.n && decide (s.o = 0) && decide (s.v = 0) && (decide (1 <= s.y) && decide (s.y <= 5))
def zerB (s : Stp) : Bool := decide (s.k = 0) && decide (s.a = ⟨#[]⟩) && decide (s.n = 0)
def askB (s : Stp) : Bool := nameB s.u && zerB s && decide (s.y = 0) && (decide (0 <= s.o) && decide (s.o <= 15)) && (decide (1 <= s.v) && decide (s.v <= 50))
def stpB (s : Stp) : Bool := ownB s || askB s
def defB (nm : ByteArray) (L : List Stp) : Bool := nameB nm && (decide (1 <= L.length) && decide (L.length <= 8)) && L.all stpB
def chE (nm : ByteArray) (L : List Stp) : Int := if defB nm L = true then 0 else 90
theorem own_iff (s : Stp) : ownB s = true ↔ s.u = ⟨#[]⟩ /\ actB s.k s.a s.n = true /\ s.o = 0 /\ s.v = 0 /\ 1 <= s.y /\ s.y <= 5 := by
 unfold ownB; simp only [Bool.and_eq_true, decide_eq_true_eq, and_assoc]
theorem ask_iff (s : Stp) : askB s = true ↔ nameB s.u = true /\ s.k = 0 /\ s.a = ⟨#[]⟩ /\ s.n = 0 /\ s.y = 0 /\ 0 <= s.o /\ s.o <= 15 /\ 1 <= s.v /\ s.v <= 50 := by
 unfold askB zerB; simp only [Bool.and_eq_true, decide_eq_true_eq, and_assoc]
theorem def_iff (nm : ByteArray) (L : List Stp) : defB nm L = true ↔ nameB nm = true /\ 1 <= L.length /\ L.length <= 8 /\ ∀ s ∈ L, stpB s = true := by
 unfold defB; simp only [Bool.and_eq_true, decide_eq_true_eq, and_assoc, List.all_eq_true]
theorem ch_yes {nm : ByteArray} {L : List Stp} (h : defB nm L = true) : chE nm L = 0 := by unfold chE; rw [if_pos h]
theorem ch_no {nm : ByteArray} {L : List Stp} (h : defB nm L = false) : chE nm L = 90 := by unfold chE; rw [h]; rfl
/- the words -/
def wSaga : ByteArray := ⟨#[115, 97, 103, 97]⟩
def wAsk : ByteArray := ⟨#[97, 115, 107]⟩
def wTries : ByteArray := ⟨#[116, 114, 105, 101, 115]⟩
def wWait : ByteArray := ⟨#[119, 97, 105, 116]⟩
def wDebit : ByteArray := ⟨#[100, 101, 98, 105, 116]⟩
def wCredit : ByteArray := ⟨#[99, 114, 101, 100, 105, 116]⟩
def wReserve : ByteArray := ⟨#[114, 101, 115, 101, 114, 118, 101]⟩
def wRelease : ByteArray := ⟨#[114, 101, 108, 101, 97, 115, 101]⟩
def gOpen : ByteArray := ⟨#[123]⟩
def gShut : ByteArray := ⟨#[125]⟩
def gSemi : ByteArray := ⟨#[59]⟩
def kw (s : ByteArray) : Int := if s = wDebit then 1 else if s = wCredit then 2 else if s = wReserve then 3 else if s = wRelease then 4 else 0
def wk (k : Int) : ByteArray := if k = 1 then wDebit else if k = 2 then wCredit else if k = 3 then wReserve else if k = 4 then wRelease else ⟨#[]⟩
theorem kw_ask : kw wAsk = 0 := by decide
theorem kw_range (s : ByteArray) : 0 <= kw s /\ kw s <= 4 := by
 unfold kw; repeat' split
 all_goals omega

/- reading: tokens by their numbers -/
def tk (T : List Tok) (i : Nat) : Tok := T.getD i ⟨0, ⟨#[]⟩, 0⟩
theorem tk_get (T : List Tok) (i : Nat) (h : i < T.length) : tk T i = T[i] := by unfold tk; rw [List.getD_eq_getElem?_getD, List.getElem?_eq_getElem h]; rfl
theorem tk_out (T : List Tok) (i : Nat) (h : T.length <= i) : tk T i = ⟨0, ⟨#[]⟩, 0⟩ := by unfold tk; rw [List.getD_eq_getElem?_getD, List.getElem?_eq_none h]; rfl
def isT (x : Tok) (k : Int) (s : ByteArray) : Bool := decide (x.k = k) && decide (x.t = s)
def sm (t : ByteArray) : Int := if 9 < t.size then -1 else valE 2 t

/- the document's reading: the place behind and what was read, or the place where nothing goes on -/
def opt (T : List Tok) (i : Nat) (wd : ByteArray) (n : Int) : Nat × Option Int :=
 if isT (tk T i) 1 wd = true then (if (tk T (i + 1)).k = 2 then (i + 2, some (sm (tk T (i + 1)).t)) else (i + 1, none)) else (i, some n)
def fin (T : List Tok) (x : Nat × Option Int) (f : Int -> Stp) : Nat × Option Stp := match x.2 with
 | none => (x.1, none)
 | some n => if isT (tk T x.1) 3 gSemi = true then (x.1 + 1, some (f n)) else (x.1, none)
def one (T : List Tok) (i : Nat) : Nat × Option Stp :=
 if isT (tk T i) 1 wAsk = true then
  (if (tk T (i + 1)).k = 2 then
   (if (tk T (i + 2)).k = 1 then fin T (opt T (i + 3) wWait 20) (fun n => ⟨0, ⟨#[]⟩, 0, sm (tk T (i + 1)).t, (tk T (i + 2)).t, 0, n⟩)
   else (i + 2, none))
  else (i + 1, none))
 else if (tk T i).k = 1 /\ kw (tk T i).t ≠ 0 then
  (if (tk T (i + 1)).k = 1 then
   (if (tk T (i + 2)).k = 2 then fin T (opt T (i + 3) wTries 1) (fun n => ⟨kw (tk T i).t, (tk T (i + 1)).t, valE 2 (tk T (i + 2)).t, 0, ⟨#[]⟩, n, 0⟩)
   else (i + 2, none))
  else (i + 1, none))
 else (i, none)
def stps (T : List Tok) : Nat -> Nat -> List Stp -> Nat × Option (List Stp)
 | 0, i, _ => (i, none)
 | f + 1, i, L => if isT (tk T i) 3 gShut = true then (i + 1, some L) else match one T i with
  | (j, none) => (j, none)
  | (j, some s) => stps T f j (L ++ [s])
def prs (T : List Tok) (i : Nat) : Nat × Option (ByteArray × List Stp) :=
 if isT (tk T i) 1 wSaga = true then
  (if (tk T (i + 1)).k = 1 then
   (if isT (tk T (i + 2)) 3 gOpen = true then
    match stps T (T.length + 1) (i + 3) [] with
    | (j, none) => (j, none)
    | (j, some L) => (j, some ((tk T (i + 1)).t, L))
   else (i + 2, none))
  else (i + 1, none))
 else (i, none)

/- tokens that may be, but for the length of their text -/
structure Gd (T : List Tok) : Prop where
 pos : 0 < T.length
 may : ∀ i, i + 1 < T.length -> mayB (tk T i).k (tk T i).t = true
 last : (tk T (T.length - 1)).k = 0 /\ (tk T (T.length - 1)).t = ⟨#[]⟩
theorem gd_of {T : List Tok} (h : Lex.ckE T ≠ 80) : Gd T := by
 rcases List.eq_nil_or_concat T with rfl | ⟨I, x, rfl⟩
 ·exact absurd Lex.ck_none h
 rw [List.concat_eq_append] at *
 rw [Lex.ck_snoc] at h
 by_cases he : endT x = true
 ·rw [if_pos he] at h
  by_cases ha : I.all okT = true
  ·have hlen : (I ++ [x]).length = I.length + 1 := by simp
   have he0 : x.k = 0 /\ x.t = ⟨#[]⟩ := by unfold Lex.endT at he; simpa only [Bool.and_eq_true, decide_eq_true_eq] using he
   refine ⟨by omega, ?_, ?_⟩
   ·intro i hi
    rw [tk_get _ _ (by omega), List.getElem_append_left (by omega)]
    rw [List.all_eq_true] at ha
    exact ha _ (List.getElem_mem _)
   ·rw [hlen, tk_get _ _ (by omega), List.getElem_append_right (by omega)]
    simpa using he0
  ·rw [if_neg ha] at h; exact absurd rfl h
 ·rw [if_neg he] at h; exact absurd rfl h
theorem Gd.next {T : List Tok} (h : Gd T) {i : Nat} (hk : (tk T i).k ≠ 0) : i + 1 < T.length := by
 by_cases h1 : i + 1 < T.length
 ·exact h1
 ·by_cases h2 : i + 1 = T.length
  ·have := h.last.1
   rw [show T.length - 1 = i by omega] at this
   exact absurd this hk
  ·rw [tk_out T i (by omega)] at hk
   exact absurd rfl hk
theorem Gd.size {T : List Tok} (h : Gd T) (i : Nat) : (tk T i).t.size <= 16 := by
 by_cases h1 : i + 1 < T.length
 ·exact (Lex.may_size (h.may i h1)).2
 ·by_cases h2 : i < T.length
  ·have := h.last.2
   rw [show T.length - 1 = i by omega] at this
   rw [this]; decide
  ·rw [tk_out T i (by omega)]; decide
theorem isT_iff (x : Tok) (k : Int) (s : ByteArray) : isT x k s = true ↔ x.k = k /\ x.t = s := by unfold isT; simp only [Bool.and_eq_true, decide_eq_true_eq]
theorem Gd.num {T : List Tok} (h : Gd T) {i : Nat} (hk : (tk T i).k = 2) : numB (tk T i).t = true := by
 have h1 := h.next (i := i) (by rw [hk]; decide)
 have := h.may i h1
 rw [hk] at this
 simpa [Lex.mayB] using this

/- the program's reading: the place, and whether it is stuck there -/
structure St where
 i : Nat
 s : Bool
def passB (T : List Tok) (q : St) (k : Int) (s : ByteArray) : Bool := !q.s && isT (tk T q.i) k s
def passS (T : List Tok) (q : St) (k : Int) (s : ByteArray) : St := if passB T q k s = true then ⟨q.i + 1, q.s⟩ else q
def mustS (T : List Tok) (q : St) (k : Int) (s : ByteArray) : St := if passB T q k s = true then ⟨q.i + 1, q.s⟩ else ⟨q.i, true⟩
def takeB (T : List Tok) (q : St) (k : Int) : Bool := !q.s && decide ((tk T q.i).k = k)
def takeV (T : List Tok) (q : St) (k : Int) : ByteArray := if takeB T q k = true then (tk T q.i).t else ⟨#[]⟩
def takeS (T : List Tok) (q : St) (k : Int) : St := if takeB T q k = true then ⟨q.i + 1, q.s⟩ else ⟨q.i, true⟩
def numV (T : List Tok) (q : St) : Int := valE 2 (takeV T q 2)
def cntV (T : List Tok) (q : St) : Int := if 9 < (tk T q.i).t.size then -1 else numV T q
def optV (T : List Tok) (q : St) (wd : ByteArray) (n : Int) : Int := if passB T q 1 wd = true then cntV T (passS T q 1 wd) else n
def optS (T : List Tok) (q : St) (wd : ByteArray) : St := if passB T q 1 wd = true then takeS T (passS T q 1 wd) 2 else q
def kndV (T : List Tok) (q : St) : Int := kw (tk T q.i).t
def kndS (T : List Tok) (q : St) : St := takeS T (if kw (tk T q.i).t = 0 then ⟨q.i, true⟩ else q) 1
def stpV (T : List Tok) (q : St) : Stp :=
 if passB T q 1 wAsk = true then
  ⟨0, ⟨#[]⟩, 0, cntV T (passS T q 1 wAsk), takeV T (takeS T (passS T q 1 wAsk) 2) 1, 0, optV T (takeS T (takeS T (passS T q 1 wAsk) 2) 1) wWait 20⟩
 else
  ⟨kndV T q, takeV T (kndS T q) 1, numV T (takeS T (kndS T q) 1), 0, ⟨#[]⟩, optV T (takeS T (takeS T (kndS T q) 1) 2) wTries 1, 0⟩
def stpS (T : List Tok) (q : St) : St :=
 mustS T (if passB T q 1 wAsk = true then optS T (takeS T (takeS T (passS T q 1 wAsk) 2) 1) wWait else optS T (takeS T (takeS T (kndS T q) 1) 2) wTries) 3 gSemi
def lopS (T : List Tok) : Nat -> St -> List Stp -> St × List Stp
 | 0, q, L => (q, L)
 | f + 1, q, L => if q.s = true then (q, L) else if passB T q 3 gShut = true then (passS T q 3 gShut, L) else lopS T f (stpS T q) (L ++ [stpV T q])
def defQ (T : List Tok) (i : Nat) : St := mustS T (takeS T (mustS T ⟨i, false⟩ 1 wSaga) 1) 3 gOpen
def defN (T : List Tok) (i : Nat) : ByteArray := takeV T (mustS T ⟨i, false⟩ 1 wSaga) 1
def defR (T : List Tok) (i : Nat) : St × List Stp := lopS T (T.length + 2) (defQ T i) []

/- stuck: nothing goes on -/
theorem must_stuck (T : List Tok) (i : Nat) (k : Int) (s : ByteArray) : mustS T ⟨i, true⟩ k s = ⟨i, true⟩ := rfl
theorem pass_open (T : List Tok) (i : Nat) (k : Int) (s : ByteArray) : passB T ⟨i, false⟩ k s = isT (tk T i) k s := rfl
theorem take_yes {T : List Tok} {i : Nat} {k : Int} (h : (tk T i).k = k) : takeS T ⟨i, false⟩ k = ⟨i + 1, false⟩ /\ takeV T ⟨i, false⟩ k = (tk T i).t := by
 have : takeB T ⟨i, false⟩ k = true := by unfold takeB; rw [decide_eq_true h]; rfl
 unfold takeS takeV
 rw [if_pos this, if_pos this]; exact ⟨rfl, rfl⟩
theorem take_no {T : List Tok} {i : Nat} {k : Int} (h : ¬ (tk T i).k = k) : takeS T ⟨i, false⟩ k = ⟨i, true⟩ := by
 have : takeB T ⟨i, false⟩ k = false := by unfold takeB; rw [decide_eq_false h]; rfl
 unfold takeS
 rw [this]; rfl
theorem opt_same (T : List Tok) (i : Nat) (wd : ByteArray) (n : Int) : (∀ m, (opt T i wd n).2 = some m -> optS T ⟨i, false⟩ wd = ⟨(opt T i wd n).1, false⟩ /\ optV T ⟨i, false⟩ wd n = m) /\ ((opt T i wd n).2 = none -> optS T ⟨i, false⟩ wd = ⟨(opt T i wd n).1, true⟩) := by
 unfold opt optS optV
 rw [pass_open]
 by_cases h1 : isT (tk T i) 1 wd = true
 ·rw [if_pos h1, if_pos h1, if_pos h1]
  have e : passS T ⟨i, false⟩ 1 wd = ⟨i + 1, false⟩ := by unfold passS; rw [pass_open, if_pos h1]
  rw [e]
  by_cases h2 : (tk T (i + 1)).k = 2
  ·rw [if_pos h2]
   obtain ⟨a, b⟩ := take_yes (T := T) h2
   refine ⟨fun m hm => ?_, fun hm => by cases hm⟩
   simp only [Option.some.injEq] at hm
   subst hm
   rw [a]
   refine ⟨rfl, ?_⟩
   unfold cntV numV sm
   rw [b]
  ·rw [if_neg h2]
   exact ⟨fun m hm => (by cases hm), fun _ => take_no h2⟩
 ·rw [if_neg h1, if_neg h1, if_neg h1]
  exact ⟨fun m hm => by simp only [Option.some.injEq] at hm; exact ⟨rfl, hm⟩, fun hm => by cases hm⟩
theorem must_yes {T : List Tok} {i : Nat} {k : Int} {s : ByteArray} (h : isT (tk T i) k s = true) : mustS T ⟨i, false⟩ k s = ⟨i + 1, false⟩ := by unfold mustS; rw [pass_open, if_pos h]
theorem must_no {T : List Tok} {i : Nat} {k : Int} {s : ByteArray} (h : ¬ isT (tk T i) k s = true) : mustS T ⟨i, false⟩ k s = ⟨i, true⟩ := by unfold mustS; rw [pass_open, if_neg h]
theorem pass_yes {T : List Tok} {i : Nat} {k : Int} {s : ByteArray} (h : isT (tk T i) k s = true) : passS T ⟨i, false⟩ k s = ⟨i + 1, false⟩ := by unfold passS; rw [pass_open, if_pos h]

theorem fin_same (T : List Tok) (i : Nat) (wd : ByteArray) (n : Int) (f : Int -> Stp) : (∀ s, (fin T (opt T i wd n) f).2 = some s -> mustS T (optS T ⟨i, false⟩ wd) 3 gSemi = ⟨(fin T (opt T i wd n) f).1, false⟩ /\ f (optV T ⟨i, false⟩ wd n) = s) /\
  ((fin T (opt T i wd n) f).2 = none -> mustS T (optS T ⟨i, false⟩ wd) 3 gSemi = ⟨(fin T (opt T i wd n) f).1, true⟩) := by
 obtain ⟨h1, h2⟩ := opt_same T i wd n
 unfold fin
 cases ho : (opt T i wd n).2 with
 | none =>
  rw [h2 ho, must_stuck]
  exact ⟨fun s hs => (by cases hs), fun _ => rfl⟩
 | some m =>
  obtain ⟨a, b⟩ := h1 m ho
  rw [a, b]
  by_cases hs : isT (tk T (opt T i wd n).1) 3 gSemi = true
  ·rw [must_yes hs]
   simp only [hs, if_true]
   exact ⟨fun s e => ⟨trivial, Option.some.inj e⟩, fun e => by cases e⟩
  ·rw [must_no hs]
   simp only [hs]
   exact ⟨fun s e => (by cases e), fun _ => rfl⟩

theorem stp_same (T : List Tok) (i : Nat) : (∀ s, (one T i).2 = some s -> stpS T ⟨i, false⟩ = ⟨(one T i).1, false⟩ /\ stpV T ⟨i, false⟩ = s) /\ ((one T i).2 = none -> stpS T ⟨i, false⟩ = ⟨(one T i).1, true⟩) := by
 unfold one stpS stpV
 rw [pass_open]
 by_cases ha : isT (tk T i) 1 wAsk = true
 ·simp only [if_pos ha]
  rw [pass_yes ha]
  by_cases h1 : (tk T (i + 1)).k = 2
  ·obtain ⟨a, b⟩ := take_yes (T := T) h1
   simp only [if_pos h1]
   rw [a]
   by_cases h2 : (tk T (i + 2)).k = 1
   ·obtain ⟨c, d⟩ := take_yes (T := T) h2
    simp only [if_pos h2]
    rw [show (i + 1 + 1) = i + 2 from rfl, c, d]
    have hv : cntV T ⟨i + 1, false⟩ = sm (tk T (i + 1)).t := by unfold cntV numV sm; rw [b]
    rw [hv]
    exact fin_same T (i + 3) wWait 20 (fun n => ⟨0, ⟨#[]⟩, 0, sm (tk T (i + 1)).t, (tk T (i + 2)).t, 0, n⟩)
   ·simp only [if_neg h2]
    rw [show (i + 1 + 1) = i + 2 from rfl, take_no h2]
    exact ⟨fun s e => (by cases e), fun _ => rfl⟩
  ·simp only [if_neg h1]
   rw [take_no h1]
   exact ⟨fun s e => (by cases e), fun _ => rfl⟩
 ·simp only [if_neg ha]
  by_cases hk : (tk T i).k = 1 /\ kw (tk T i).t ≠ 0
  ·simp only [if_pos hk]
   have e0 : kndS T ⟨i, false⟩ = ⟨i + 1, false⟩ := by
    unfold kndS
    rw [if_neg hk.2]
    exact (take_yes hk.1).1
   rw [e0]
   by_cases h1 : (tk T (i + 1)).k = 1
   ·obtain ⟨a, b⟩ := take_yes (T := T) h1
    simp only [if_pos h1]
    rw [a, b]
    by_cases h2 : (tk T (i + 2)).k = 2
    ·obtain ⟨c, d⟩ := take_yes (T := T) h2
     simp only [if_pos h2]
     have hv : numV T ⟨i + 1 + 1, false⟩ = valE 2 (tk T (i + 2)).t := by unfold numV; rw [show (i + 1 + 1) = i + 2 from rfl, d]
     rw [hv, show (i + 1 + 1) = i + 2 from rfl, c]
     exact fin_same T (i + 3) wTries 1 (fun n => ⟨kw (tk T i).t, (tk T (i + 1)).t, valE 2 (tk T (i + 2)).t, 0, ⟨#[]⟩, n, 0⟩)
    ·simp only [if_neg h2]
     rw [show (i + 1 + 1) = i + 2 from rfl, take_no h2]
     exact ⟨fun s e => (by cases e), fun _ => rfl⟩
   ·simp only [if_neg h1]
    rw [take_no h1]
    exact ⟨fun s e => (by cases e), fun _ => rfl⟩
  ·simp only [if_neg hk]
   have e0 : kndS T ⟨i, false⟩ = ⟨i, true⟩ := by
    unfold kndS
    by_cases hz : kw (tk T i).t = 0
    ·rw [if_pos hz]; rfl
    ·rw [if_neg hz]
     exact take_no (fun e => hk ⟨e, hz⟩)
   rw [e0]
   exact ⟨fun s e => (by cases e), fun _ => rfl⟩

/- how far it goes -/
theorem opt_le {T : List Tok} (hT : Gd T) (i : Nat) (wd : ByteArray) (n : Int) (h : i < T.length) : i <= (opt T i wd n).1 /\ (opt T i wd n).1 < T.length := by
 unfold opt
 by_cases h1 : isT (tk T i) 1 wd = true
 ·have hk := ((isT_iff _ _ _).1 h1).1
  have hn := hT.next (i := i) (by rw [hk]; decide)
  rw [if_pos h1]
  by_cases h2 : (tk T (i + 1)).k = 2
  ·have hn2 := hT.next (i := i + 1) (by rw [h2]; decide)
   rw [if_pos h2]; exact ⟨by simp, by simpa using hn2⟩
  ·rw [if_neg h2]; exact ⟨by simp, by simpa using hn⟩
 ·rw [if_neg h1]; exact ⟨by simp, by simpa using h⟩
theorem fin_le {T : List Tok} (hT : Gd T) (x : Nat × Option Int) (f : Int -> Stp) (h : x.1 < T.length) : x.1 <= (fin T x f).1 /\ (fin T x f).1 < T.length := by
 unfold fin
 cases hx : x.2 with
 | none => exact ⟨Nat.le_refl _, h⟩
 | some m =>
  by_cases hs : isT (tk T x.1) 3 gSemi = true
  ·have hk := ((isT_iff _ _ _).1 hs).1
   have hn := hT.next (i := x.1) (by rw [hk]; decide)
   simp only [if_pos hs]; exact ⟨by omega, hn⟩
  ·simp only [if_neg hs]; exact ⟨Nat.le_refl _, h⟩
theorem one_le {T : List Tok} (hT : Gd T) (i : Nat) (h : i < T.length) : i <= (one T i).1 /\ (one T i).1 < T.length /\ ((one T i).2 ≠ none -> i < (one T i).1) := by
 unfold one
 by_cases ha : isT (tk T i) 1 wAsk = true
 ·have hn := hT.next (i := i) (by rw [((isT_iff _ _ _).1 ha).1]; decide)
  rw [if_pos ha]
  by_cases h1 : (tk T (i + 1)).k = 2
  ·have hn1 := hT.next (i := i + 1) (by rw [h1]; decide)
   rw [if_pos h1]
   by_cases h2 : (tk T (i + 2)).k = 1
   ·have hn2 := hT.next (i := i + 2) (by rw [h2]; decide)
    rw [if_pos h2]
    have q1 := opt_le hT (i + 3) wWait 20 hn2
    have q2 := fin_le hT (opt T (i + 3) wWait 20) (fun n => ⟨0, ⟨#[]⟩, 0, sm (tk T (i + 1)).t, (tk T (i + 2)).t, 0, n⟩) q1.2
    exact ⟨by omega, q2.2, fun _ => by omega⟩
   ·rw [if_neg h2]; exact ⟨by simp, hn1, fun e => absurd rfl e⟩
  ·rw [if_neg h1]; exact ⟨by simp, hn, fun e => absurd rfl e⟩
 ·rw [if_neg ha]
  by_cases hk : (tk T i).k = 1 /\ kw (tk T i).t ≠ 0
  ·have hn := hT.next (i := i) (by rw [hk.1]; decide)
   rw [if_pos hk]
   by_cases h1 : (tk T (i + 1)).k = 1
   ·have hn1 := hT.next (i := i + 1) (by rw [h1]; decide)
    rw [if_pos h1]
    by_cases h2 : (tk T (i + 2)).k = 2
    ·have hn2 := hT.next (i := i + 2) (by rw [h2]; decide)
     rw [if_pos h2]
     have q1 := opt_le hT (i + 3) wTries 1 hn2
     have q2 := fin_le hT (opt T (i + 3) wTries 1) (fun n => ⟨kw (tk T i).t, (tk T (i + 1)).t, valE 2 (tk T (i + 2)).t, 0, ⟨#[]⟩, n, 0⟩) q1.2
     exact ⟨by omega, q2.2, fun _ => by omega⟩
    ·rw [if_neg h2]; exact ⟨by simp, hn1, fun e => absurd rfl e⟩
   ·rw [if_neg h1]; exact ⟨by simp, hn, fun e => absurd rfl e⟩
  ·rw [if_neg hk]; exact ⟨by simp, h, fun e => absurd rfl e⟩
theorem stp_le {T : List Tok} (hT : Gd T) (i : Nat) (h : i < T.length) : (stpS T ⟨i, false⟩).i < T.length /\ ((stpS T ⟨i, false⟩).s = true ∨ i < (stpS T ⟨i, false⟩).i) := by
 obtain ⟨h1, h2⟩ := stp_same T i
 obtain ⟨l1, l2, l3⟩ := one_le hT i h
 cases ho : (one T i).2 with
 | none => rw [h2 ho]; exact ⟨l2, Or.inl rfl⟩
 | some s => rw [(h1 s ho).1]; exact ⟨l2, Or.inr (l3 (by rw [ho]; simp))⟩
theorem lop_stuck (T : List Tok) (g i : Nat) (L : List Stp) : lopS T (g + 1) ⟨i, true⟩ L = (⟨i, true⟩, L) := by unfold lopS; rw [if_pos rfl]
theorem lop_open (T : List Tok) (g i : Nat) (L : List Stp) : lopS T (g + 1) ⟨i, false⟩ L = if isT (tk T i) 3 gShut = true then (⟨i + 1, false⟩, L) else lopS T g (stpS T ⟨i, false⟩) (L ++ [stpV T ⟨i, false⟩]) := by
 show (if (false = true) then _ else _) = _
 rw [if_neg (by decide), pass_open]
 by_cases hs : isT (tk T i) 3 gShut = true
 ·rw [if_pos hs, if_pos hs, pass_yes hs]
 ·rw [if_neg hs, if_neg hs]
theorem lop_same {T : List Tok} (hT : Gd T) : ∀ (f g : Nat) (i : Nat) (L : List Stp), i < T.length -> T.length - i < f -> T.length - i + 1 < g -> (∀ M, (stps T f i L).2 = some M -> lopS T g ⟨i, false⟩ L = (⟨(stps T f i L).1, false⟩, M)) /\ ((stps T f i L).2 = none -> ∃ M, lopS T g ⟨i, false⟩ L = (⟨(stps T f i L).1, true⟩, M)) /\ (stps T f i L).1 < T.length := by
 intro f
 induction f with
 | zero => intro g i L hi hf; omega
 | succ f ih =>
  intro g i L hi hf hg
  cases g with
  | zero => omega
  | succ g =>
   rw [lop_open]
   unfold stps
   by_cases hs : isT (tk T i) 3 gShut = true
   ·have hn := hT.next (i := i) (by rw [((isT_iff _ _ _).1 hs).1]; decide)
    simp only [if_pos hs]
    refine ⟨fun M e => ?_, fun e => (by cases e), hn⟩
    simp only [Option.some.injEq] at e
    rw [e]
   ·simp only [if_neg hs]
    obtain ⟨h1, h2⟩ := stp_same T i
    obtain ⟨l1, l2, l3⟩ := one_le hT i hi
    rcases hx : one T i with ⟨j, o⟩
    rw [hx] at h1 h2 l1 l2 l3
    cases o with
    | none =>
     refine ⟨fun M e => (by cases e), fun _ => ?_, l2⟩
     rw [h2 rfl]
     cases g with
     | zero => omega
     | succ g => exact ⟨_, lop_stuck _ _ _ _⟩
    | some s =>
     obtain ⟨a, b⟩ := h1 s rfl
     have := l3 (by simp)
     simp only at this l2
     rw [a, b]
     exact ih g j (L ++ [s]) l2 (by omega) (by omega)
/- the program's definition is the document's -/
theorem def_same {T : List Tok} (hT : Gd T) (i : Nat) (h : i < T.length) : (∀ nm L, (prs T i).2 = some (nm, L) -> defR T i = (⟨(prs T i).1, false⟩, L) /\ defN T i = nm) /\ ((prs T i).2 = none -> ∃ M, defR T i = (⟨(prs T i).1, true⟩, M)) /\ (prs T i).1 < T.length := by
 unfold prs defR defN defQ
 by_cases h0 : isT (tk T i) 1 wSaga = true
 ·have hn := hT.next (i := i) (by rw [((isT_iff _ _ _).1 h0).1]; decide)
  rw [must_yes h0]
  simp only [if_pos h0]
  by_cases h1 : (tk T (i + 1)).k = 1
  ·have hn1 := hT.next (i := i + 1) (by rw [h1]; decide)
   obtain ⟨a, b⟩ := take_yes (T := T) h1
   simp only [if_pos h1]
   rw [a, b]
   by_cases h2 : isT (tk T (i + 2)) 3 gOpen = true
   ·have hn2 := hT.next (i := i + 2) (by rw [((isT_iff _ _ _).1 h2).1]; decide)
    simp only [if_pos h2]
    rw [show i + 1 + 1 = i + 2 from rfl, must_yes h2]
    obtain ⟨q1, q2, q3⟩ := lop_same hT (T.length + 1) (T.length + 2) (i + 3) [] hn2 (by omega) (by omega)
    rcases hx : stps T (T.length + 1) (i + 3) [] with ⟨j, o⟩
    rw [hx] at q1 q2 q3
    cases o with
    | none => exact ⟨fun nm L e => (by cases e), fun _ => q2 rfl, q3⟩
    | some M =>
     refine ⟨fun nm L e => ?_, fun e => (by cases e), q3⟩
     simp only [Option.some.injEq, Prod.mk.injEq] at e
     obtain ⟨e1, e2⟩ := e
     subst e1 e2
     exact ⟨q1 _ rfl, rfl⟩
   ·simp only [if_neg h2]
    rw [show i + 1 + 1 = i + 2 from rfl, must_no h2]
    exact ⟨fun nm L e => (by cases e), fun _ => ⟨_, lop_stuck _ _ _ _⟩, hn1⟩
  ·simp only [if_neg h1]
   rw [take_no h1]
   exact ⟨fun nm L e => (by cases e), fun _ => ⟨_, lop_stuck _ _ _ _⟩, hn⟩
 ·rw [must_no h0]
  simp only [if_neg h0]
  exact ⟨fun nm L e => (by cases e), fun _ => ⟨_, lop_stuck _ _ _ _⟩, h⟩

/- the answers of Parse and of Text -/
def pE (T : List Tok) (at' : Int) : Int := if Lex.ckE T = 80 then 80 else if 0 <= at' /\ at' < T.length then (match (prs T at'.toNat).2 with | none => 81 | some (nm, L) => chE nm L) else 2
def pA (T : List Tok) (at' : Int) : Int := if Lex.ckE T = 80 then 0 else if 0 <= at' /\ at' < T.length then (match (prs T at'.toNat).2 with | none => (tk T (prs T at'.toNat).1).p | some (nm, L) => if defB nm L = true then 0 else (tk T at'.toNat).p) else 0
def pT (T : List Tok) (at' : Int) : Int := if pE T at' = 0 then ((prs T at'.toNat).1 : Int) else 0
def pN (T : List Tok) (at' : Int) : ByteArray := if pE T at' = 0 then (match (prs T at'.toNat).2 with | none => ⟨#[]⟩ | some (nm, _) => nm) else ⟨#[]⟩
def pL (T : List Tok) (at' : Int) : List Stp := if pE T at' = 0 then (match (prs T at'.toNat).2 with | none => [] | some (_, L) => L) else []
end Go.Proofs.YthaadiclopoamaaGreatDoor.Df
/- What the library's tables and sentinels are while the laws run; Itoa, Atoi, Cut by the library's contracts. -/
set_option maxRecDepth 100000
set_option maxHeartbeats 8000000
namespace Go.Proofs.YthaadiclopoamaaGreatDoor
open Go.RowKit

/- the table of powers and the two sentinels lie there -/
structure Env (w : World) : Prop where
 tab : Lib.TabIs Tryz.prog w "internal/strconv.uint64pow10" .u64 Lib.pow10Tab
 syn : ∃ t p, w.cell? ⟨5, 0, none⟩ = some (.iface t p)
 rng : ∃ t p, w.cell? ⟨6, 0, none⟩ = some (.iface t p)
theorem Env.gr {w w' : World} (h : Env w) (g : Gr w w') : Env w' := by
 obtain ⟨ht, ⟨t1, p1, h1⟩, ⟨t2, p2, h2⟩⟩ := h
 refine ⟨?_, ⟨t1, p1, g.keep h1⟩, ⟨t2, p2, g.keep h2⟩⟩
 have hb : 6 < w.heap.size := World.block_lt_of_cell? w _ h2
 exact var?_below g.below (by kernel_rfl : Tryz.prog.globalNamed "internal/strconv.uint64pow10" = some 1) (by omega) ht

theorem gr_grow (w : World) (k : Nat) (obs : Array Obj) : Gr w (Sort.grow (w.drewN k) obs) := by
 refine ⟨⟨rfl, rfl, rfl, ?_, ?_⟩⟩
 ·simp [Sort.grow, World.drewN]
 ·intro j hj
  simp [Sort.grow, World.drewN, Array.getElem?_append, hj]

theorem itoa_any (n : Nat) (w : World) (hn : n <= 9223372036854775807) (he : Env w) : Calls Tryz.prog 23 #[.int .i64 n] w fun e w' => e = .returned (.string ⟨(Lib.decDigits n).toArray⟩) /\ Gr w w' := by
 refine (Tryz.strconv_Itoa n (by omega) (by omega) w he.tab).mono ?_
 rintro e w' ⟨rfl, k, obs, rfl⟩
 refine ⟨?_, gr_grow w k obs⟩
 have : Lib.itoa (n : Int) = Lib.decDigits n := by
  unfold Lib.itoa
  rw [if_neg (by omega)]; rfl
 rw [this]

def numE (l : List UInt8) : Int := match Lib.atoiAll l with
 | .ok v => v
 | _ => -1

theorem readNumber_any (s : ByteArray) (w : World) (hs : s.size <= 140737488355328) (he : Env w) : Calls Tryz.prog 167 #[.string s] w fun e w' => e = .returned (.int .i64 (numE s.data.toList)) /\ Gr w w' := by
 obtain ⟨_, ⟨t1, p1, h1⟩, ⟨t2, p2, h2⟩⟩ := he
 cases hr : Lib.atoiAll s.data.toList with
 | ok v =>
  have HA : Hid (Calls Tryz.prog 179 #[.string s] w fun e w' => e = .returned (.tuple #[.int .i64 v, .nilIface]) /\ Gr w w') := by
   refine (Tryz.strconv_Atoi_ok s (by omega) v hr w).mono ?_
   rintro e w' ⟨rfl, rfl | ⟨t, rfl⟩⟩
   ·exact ⟨rfl, Gr.refl _⟩
   ·exact ⟨rfl, ⟨⟨rfl, rfl, rfl, by rw [Lib.bytesWorld_size]; omega, fun k hk => Lib.bytesWorld_at_old w 5 t k hk⟩⟩⟩
  have HN : Hid (numE s.data.toList = v) := by show _ = _; simp [numE, hr]
  clear hr
  go_enter Tryz.func167, Tryz.ntmps167
  go_wp2_with fail
  refine HA.out.mono ?_
  rintro e1 w1 ⟨rfl, hg1⟩
  go_wp2
  go_ret
  exact ⟨by rw [HN.out]; rfl, hg1⟩
 | «syntax» =>
  have HA : Hid (Calls Tryz.prog 179 #[.string s] w fun e w' => ∃ N, e = .returned (.tuple #[.int .i64 0, .iface 234 (.pointer (some ⟨N, 0, none⟩))]) /\ Gr w w') := by
   refine (Tryz.strconv_Atoi_syntax s (by omega) hr _ w h1 (Or.inr ⟨_, _, rfl⟩)).mono ?_
   rintro e w' ⟨N, rfl, _, _, hb⟩
   exact ⟨N, rfl, ⟨hb⟩⟩
  have HN : Hid (numE s.data.toList = -1) := by show _ = _; simp [numE, hr]
  clear hr
  go_enter Tryz.func167, Tryz.ntmps167
  go_wp2_with fail
  refine HA.out.mono ?_
  rintro e1 w1 ⟨N, rfl, hg1⟩
  go_wp2
  go_ret
  exact ⟨by rw [HN.out]; rfl, hg1⟩
 | range =>
  have HA : Hid (Calls Tryz.prog 179 #[.string s] w fun e w' => ∃ N, e = .returned (.tuple #[.int .i64 (Lib.atoiSat s.data.toList), .iface 234 (.pointer (some ⟨N, 0, none⟩))]) /\ Gr w w') := by
   refine (Tryz.strconv_Atoi_range s (by omega) hr _ w h2 (Or.inr ⟨_, _, rfl⟩)).mono ?_
   rintro e w' ⟨N, rfl, _, _, hb⟩
   exact ⟨N, rfl, ⟨hb⟩⟩
  have HN : Hid (numE s.data.toList = -1) := by show _ = _; simp [numE, hr]
  clear hr
  go_enter Tryz.func167, Tryz.ntmps167
  go_wp2_with fail
  refine HA.out.mono ?_
  rintro e1 w1 ⟨N, rfl, hg1⟩
  go_wp2
  go_ret
  exact ⟨by rw [HN.out]; rfl, hg1⟩
end Go.Proofs.YthaadiclopoamaaGreatDoor
