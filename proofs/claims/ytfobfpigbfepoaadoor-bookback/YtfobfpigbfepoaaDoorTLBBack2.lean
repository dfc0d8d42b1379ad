/- What the proof is made of, part 2. -/
import Derived.Test.YtfobfpigbfepoaaDoorTLBBack1
import Derived.Lib.Bytealg
namespace Go.Proofs.YtfobfpigbfepoaaDoor.Df
open _root_.Go.Proofs.YtfobfpigbfepoaaDoor.Act (nameB actB)
open _root_.Go.Proofs.YtfobfpigbfepoaaDoor.Lex (Tok mayB numB sigB vl valE okT endT)
structure Stp where
  k : Int
  a : ByteArray
  n : Int
  o : Int
  u : ByteArray
  y : Int
  v : Int
def ownB (s : Stp) : Bool := decide (s.u = ⟨#[]⟩) && actB s.k s.a s.n && decide (s.o = 0) && decide (s.v = 0) && (decide (1 ≤ s.y) && decide (s.y ≤ 5))
def zerB (s : Stp) : Bool := decide (s.k = 0) && decide (s.a = ⟨#[]⟩) && decide (s.n = 0)
def askB (s : Stp) : Bool := nameB s.u && zerB s && decide (s.y = 0) && (decide (0 ≤ s.o) && decide (s.o ≤ 15)) && (decide (1 ≤ s.v) && decide (s.v ≤ 50))
def stpB (s : Stp) : Bool := ownB s || askB s
def defB (nm : ByteArray) (L : List Stp) : Bool := nameB nm && (decide (1 ≤ L.length) && decide (L.length ≤ 8)) && L.all stpB
def chE (nm : ByteArray) (L : List Stp) : Int := if defB nm L = true then 0 else 90
theorem own_iff (s : Stp) : ownB s = true ↔ s.u = ⟨#[]⟩ ∧ actB s.k s.a s.n = true ∧ s.o = 0 ∧ s.v = 0 ∧ 1 ≤ s.y ∧ s.y ≤ 5 := by
  unfold ownB; simp only [Bool.and_eq_true, decide_eq_true_eq, and_assoc]
theorem ask_iff (s : Stp) : askB s = true ↔ nameB s.u = true ∧ s.k = 0 ∧ s.a = ⟨#[]⟩ ∧ s.n = 0 ∧ s.y = 0 ∧ 0 ≤ s.o ∧ s.o ≤ 15 ∧ 1 ≤ s.v ∧ s.v ≤ 50 := by
  unfold askB zerB; simp only [Bool.and_eq_true, decide_eq_true_eq, and_assoc]
theorem def_iff (nm : ByteArray) (L : List Stp) : defB nm L = true ↔ nameB nm = true ∧ 1 ≤ L.length ∧ L.length ≤ 8 ∧ ∀ s ∈ L, stpB s = true := by
  unfold defB; simp only [Bool.and_eq_true, decide_eq_true_eq, and_assoc, List.all_eq_true]
theorem ch_yes {nm : ByteArray} {L : List Stp} (h : defB nm L = true) : chE nm L = 0 := by unfold chE; rw [if_pos h]
theorem ch_no {nm : ByteArray} {L : List Stp} (h : defB nm L = false) : chE nm L = 90 := by unfold chE; rw [h]; rfl
def wSaga : ByteArray := ⟨#[115, 97, 103, 97]⟩
def wAsk : ByteArray := ⟨#[97, 115, 107]⟩
def wTries : ByteArray := ⟨#[116, 114, 105, 101, 115]⟩
def wWait : ByteArray := ⟨#[119, 97, 105, 116]⟩
def wDebit : ByteArray := ⟨#[100, 101, 98, 105, 116]⟩
def wCredit : ByteArray := ⟨#[99, 114, 101, 100, 105, 116]⟩
def wReserve : ByteArray := ⟨#[114, 101, 115, 101, 114, 118, 101]⟩
def wRelease : ByteArray := ⟨#[114, 101, 108, 101, 97, 115, 101]⟩
def gOpen : ByteArray := ⟨#[123]⟩
def gShut : ByteArray := ⟨#[125]⟩
def gSemi : ByteArray := ⟨#[59]⟩
def kw (s : ByteArray) : Int := if s = wDebit then 1 else if s = wCredit then 2 else if s = wReserve then 3 else if s = wRelease then 4 else 0
def wk (k : Int) : ByteArray := if k = 1 then wDebit else if k = 2 then wCredit else if k = 3 then wReserve else if k = 4 then wRelease else ⟨#[]⟩
theorem kw_range (s : ByteArray) : 0 ≤ kw s ∧ kw s ≤ 4 := by
  unfold kw; repeat' split
  all_goals omega
def tk (T : List Tok) (i : Nat) : Tok := T.getD i ⟨0, ⟨#[]⟩, 0⟩
theorem tk_get (T : List Tok) (i : Nat) (h : i < T.length) : tk T i = T[i] := by unfold tk; rw [List.getD_eq_getElem?_getD, List.getElem?_eq_getElem h]; rfl
theorem tk_out (T : List Tok) (i : Nat) (h : T.length ≤ i) : tk T i = ⟨0, ⟨#[]⟩, 0⟩ := by unfold tk; rw [List.getD_eq_getElem?_getD, List.getElem?_eq_none h]; rfl
def isT (x : Tok) (k : Int) (s : ByteArray) : Bool := decide (x.k = k) && decide (x.t = s)
def sm (t : ByteArray) : Int := if 9 < t.size then -1 else valE 2 t
def opt (T : List Tok) (i : Nat) (wd : ByteArray) (n : Int) : Nat × Option Int :=
  if isT (tk T i) 1 wd = true then (if (tk T (i + 1)).k = 2 then (i + 2, some (sm (tk T (i + 1)).t)) else (i + 1, none)) else (i, some n)
def fin (T : List Tok) (x : Nat × Option Int) (f : Int → Stp) : Nat × Option Stp := match x.2 with
  | none => (x.1, none)
  | some n => if isT (tk T x.1) 3 gSemi = true then (x.1 + 1, some (f n)) else (x.1, none)
def one (T : List Tok) (i : Nat) : Nat × Option Stp :=
  if isT (tk T i) 1 wAsk = true then
    (if (tk T (i + 1)).k = 2 then
      (if (tk T (i + 2)).k = 1 then fin T (opt T (i + 3) wWait 20) (fun n => ⟨0, ⟨#[]⟩, 0, sm (tk T (i + 1)).t, (tk T (i + 2)).t, 0, n⟩)
      else (i + 2, none))
    else (i + 1, none))
  else if (tk T i).k = 1 ∧ kw (tk T i).t ≠ 0 then
    (if (tk T (i + 1)).k = 1 then
      (if (tk T (i + 2)).k = 2 then fin T (opt T (i + 3) wTries 1) (fun n => ⟨kw (tk T i).t, (tk T (i + 1)).t, valE 2 (tk T (i + 2)).t, 0, ⟨#[]⟩, n, 0⟩)
      else (i + 2, none))
    else (i + 1, none))
  else (i, none)
def stps (T : List Tok) : Nat → Nat → List Stp → Nat × Option (List Stp)
  | 0, i, _ => (i, none)
  | f + 1, i, L => if isT (tk T i) 3 gShut = true then (i + 1, some L) else match one T i with
    | (j, none) => (j, none)
    | (j, some s) => stps T f j (L ++ [s])
def prs (T : List Tok) (i : Nat) : Nat × Option (ByteArray × List Stp) :=
  if isT (tk T i) 1 wSaga = true then
    (if (tk T (i + 1)).k = 1 then
      (if isT (tk T (i + 2)) 3 gOpen = true then
        match stps T (T.length + 1) (i + 3) [] with
        | (j, none) => (j, none)
        | (j, some L) => (j, some ((tk T (i + 1)).t, L))
      else (i + 2, none))
    else (i + 1, none))
  else (i, none)
structure Gd (T : List Tok) : Prop where
  pos : 0 < T.length
  may : ∀ i, i + 1 < T.length → mayB (tk T i).k (tk T i).t = true
  last : (tk T (T.length - 1)).k = 0 ∧ (tk T (T.length - 1)).t = ⟨#[]⟩
theorem gd_of {T : List Tok} (h : Lex.ckE T ≠ 80) : Gd T := by
  rcases List.eq_nil_or_concat T with rfl | ⟨I, x, rfl⟩
  · exact absurd Lex.ck_none h
  rw [List.concat_eq_append] at *
  rw [Lex.ck_snoc] at h
  by_cases he : endT x = true
  · rw [if_pos he] at h
    by_cases ha : I.all okT = true
    · have hlen : (I ++ [x]).length = I.length + 1 := by simp
      have he0 : x.k = 0 ∧ x.t = ⟨#[]⟩ := by unfold Lex.endT at he; simpa only [Bool.and_eq_true, decide_eq_true_eq] using he
      refine ⟨by omega, ?_, ?_⟩
      · intro i hi
        rw [tk_get _ _ (by omega), List.getElem_append_left (by omega)]
        rw [List.all_eq_true] at ha
        exact ha _ (List.getElem_mem _)
      · rw [hlen, tk_get _ _ (by omega), List.getElem_append_right (by omega)]
        simpa using he0
    · rw [if_neg ha] at h; exact absurd rfl h
  · rw [if_neg he] at h; exact absurd rfl h
theorem Gd.next {T : List Tok} (h : Gd T) {i : Nat} (hk : (tk T i).k ≠ 0) : i + 1 < T.length := by
  by_cases h1 : i + 1 < T.length
  · exact h1
  · by_cases h2 : i + 1 = T.length
    · have := h.last.1
      rw [show T.length - 1 = i by omega] at this
      exact absurd this hk
    · rw [tk_out T i (by omega)] at hk
      exact absurd rfl hk
theorem Gd.size {T : List Tok} (h : Gd T) (i : Nat) : (tk T i).t.size ≤ 16 := by
  by_cases h1 : i + 1 < T.length
  · exact (Lex.may_size (h.may i h1)).2
  · by_cases h2 : i < T.length
    · have := h.last.2
      rw [show T.length - 1 = i by omega] at this
      rw [this]; decide
    · rw [tk_out T i (by omega)]; decide
theorem isT_iff (x : Tok) (k : Int) (s : ByteArray) : isT x k s = true ↔ x.k = k ∧ x.t = s := by unfold isT; simp only [Bool.and_eq_true, decide_eq_true_eq]
theorem Gd.num {T : List Tok} (h : Gd T) {i : Nat} (hk : (tk T i).k = 2) : numB (tk T i).t = true := by
  have h1 := h.next (i := i) (by rw [hk]; decide)
  have := h.may i h1
  rw [hk] at this
  simpa [Lex.mayB] using this
structure St where
  i : Nat
  s : Bool
def passB (T : List Tok) (q : St) (k : Int) (s : ByteArray) : Bool := !q.s && isT (tk T q.i) k s
def passS (T : List Tok) (q : St) (k : Int) (s : ByteArray) : St := if passB T q k s = true then ⟨q.i + 1, q.s⟩ else q
def mustS (T : List Tok) (q : St) (k : Int) (s : ByteArray) : St := if passB T q k s = true then ⟨q.i + 1, q.s⟩ else ⟨q.i, true⟩
def takeB (T : List Tok) (q : St) (k : Int) : Bool := !q.s && decide ((tk T q.i).k = k)
def takeV (T : List Tok) (q : St) (k : Int) : ByteArray := if takeB T q k = true then (tk T q.i).t else ⟨#[]⟩
def takeS (T : List Tok) (q : St) (k : Int) : St := if takeB T q k = true then ⟨q.i + 1, q.s⟩ else ⟨q.i, true⟩
def numV (T : List Tok) (q : St) : Int := valE 2 (takeV T q 2)
def cntV (T : List Tok) (q : St) : Int := if 9 < (tk T q.i).t.size then -1 else numV T q
def optV (T : List Tok) (q : St) (wd : ByteArray) (n : Int) : Int := if passB T q 1 wd = true then cntV T (passS T q 1 wd) else n
def optS (T : List Tok) (q : St) (wd : ByteArray) : St := if passB T q 1 wd = true then takeS T (passS T q 1 wd) 2 else q
def kndV (T : List Tok) (q : St) : Int := kw (tk T q.i).t
def kndS (T : List Tok) (q : St) : St := takeS T (if kw (tk T q.i).t = 0 then ⟨q.i, true⟩ else q) 1
def stpV (T : List Tok) (q : St) : Stp :=
  if passB T q 1 wAsk = true then
    ⟨0, ⟨#[]⟩, 0, cntV T (passS T q 1 wAsk), takeV T (takeS T (passS T q 1 wAsk) 2) 1, 0, optV T (takeS T (takeS T (passS T q 1 wAsk) 2) 1) wWait 20⟩
  else
    ⟨kndV T q, takeV T (kndS T q) 1, numV T (takeS T (kndS T q) 1), 0, ⟨#[]⟩, optV T (takeS T (takeS T (kndS T q) 1) 2) wTries 1, 0⟩
def stpS (T : List Tok) (q : St) : St :=
  mustS T (if passB T q 1 wAsk = true then optS T (takeS T (takeS T (passS T q 1 wAsk) 2) 1) wWait else optS T (takeS T (takeS T (kndS T q) 1) 2) wTries) 3 gSemi
def lopS (T : List Tok) : Nat → St → List Stp → St × List Stp
  | 0, q, L => (q, L)
  | f + 1, q, L => if q.s = true then (q, L) else if passB T q 3 gShut = true then (passS T q 3 gShut, L) else lopS T f (stpS T q) (L ++ [stpV T q])
def defQ (T : List Tok) (i : Nat) : St := mustS T (takeS T (mustS T ⟨i, false⟩ 1 wSaga) 1) 3 gOpen
def defN (T : List Tok) (i : Nat) : ByteArray := takeV T (mustS T ⟨i, false⟩ 1 wSaga) 1
def defR (T : List Tok) (i : Nat) : St × List Stp := lopS T (T.length + 2) (defQ T i) []
theorem must_stuck (T : List Tok) (i : Nat) (k : Int) (s : ByteArray) : mustS T ⟨i, true⟩ k s = ⟨i, true⟩ := rfl
theorem pass_open (T : List Tok) (i : Nat) (k : Int) (s : ByteArray) : passB T ⟨i, false⟩ k s = isT (tk T i) k s := rfl
theorem take_yes {T : List Tok} {i : Nat} {k : Int} (h : (tk T i).k = k) : takeS T ⟨i, false⟩ k = ⟨i + 1, false⟩ ∧ takeV T ⟨i, false⟩ k = (tk T i).t := by
  have : takeB T ⟨i, false⟩ k = true := by unfold takeB; rw [decide_eq_true h]; rfl
  unfold takeS takeV
  rw [if_pos this, if_pos this]; exact ⟨rfl, rfl⟩
theorem take_no {T : List Tok} {i : Nat} {k : Int} (h : ¬ (tk T i).k = k) : takeS T ⟨i, false⟩ k = ⟨i, true⟩ := by
  have : takeB T ⟨i, false⟩ k = false := by unfold takeB; rw [decide_eq_false h]; rfl
  unfold takeS
  rw [this]; rfl
theorem opt_same (T : List Tok) (i : Nat) (wd : ByteArray) (n : Int) : (∀ m, (opt T i wd n).2 = some m → optS T ⟨i, false⟩ wd = ⟨(opt T i wd n).1, false⟩ ∧ optV T ⟨i, false⟩ wd n = m) ∧ ((opt T i wd n).2 = none → optS T ⟨i, false⟩ wd = ⟨(opt T i wd n).1, true⟩) := by
  unfold opt optS optV
  rw [pass_open]
  by_cases h1 : isT (tk T i) 1 wd = true
  · rw [if_pos h1, if_pos h1, if_pos h1]
    have e : passS T ⟨i, false⟩ 1 wd = ⟨i + 1, false⟩ := by unfold passS; rw [pass_open, if_pos h1]
    rw [e]
    by_cases h2 : (tk T (i + 1)).k = 2
    · rw [if_pos h2]
      obtain ⟨a, b⟩ := take_yes (T := T) h2
      refine ⟨fun m hm => ?_, fun hm => by cases hm⟩
      simp only [Option.some.injEq] at hm
      subst hm
      rw [a]
      refine ⟨rfl, ?_⟩
      unfold cntV numV sm
      rw [b]
    · rw [if_neg h2]
      exact ⟨fun m hm => (by cases hm), fun _ => take_no h2⟩
  · rw [if_neg h1, if_neg h1, if_neg h1]
    exact ⟨fun m hm => by simp only [Option.some.injEq] at hm; exact ⟨rfl, hm⟩, fun hm => by cases hm⟩
theorem must_yes {T : List Tok} {i : Nat} {k : Int} {s : ByteArray} (h : isT (tk T i) k s = true) : mustS T ⟨i, false⟩ k s = ⟨i + 1, false⟩ := by unfold mustS; rw [pass_open, if_pos h]
theorem must_no {T : List Tok} {i : Nat} {k : Int} {s : ByteArray} (h : ¬ isT (tk T i) k s = true) : mustS T ⟨i, false⟩ k s = ⟨i, true⟩ := by unfold mustS; rw [pass_open, if_neg h]
theorem pass_yes {T : List Tok} {i : Nat} {k : Int} {s : ByteArray} (h : isT (tk T i) k s = true) : passS T ⟨i, false⟩ k s = ⟨i + 1, false⟩ := by unfold passS; rw [pass_open, if_pos h]
theorem fin_same (T : List Tok) (i : Nat) (wd : ByteArray) (n : Int) (f : Int → Stp) : (∀ s, (fin T (opt T i wd n) f).2 = some s → mustS T (optS T ⟨i, false⟩ wd) 3 gSemi = ⟨(fin T (opt T i wd n) f).1, false⟩ ∧ f (optV T ⟨i, false⟩ wd n) = s) ∧
    ((fin T (opt T i wd n) f).2 = none → mustS T (optS T ⟨i, false⟩ wd) 3 gSemi = ⟨(fin T (opt T i wd n) f).1, true⟩) := by
  obtain ⟨h1, h2⟩ := opt_same T i wd n
  unfold fin
  cases ho : (opt T i wd n).2 with
  | none =>
    rw [h2 ho, must_stuck]
    exact ⟨fun s hs => (by cases hs), fun _ => rfl⟩
  | some m =>
    obtain ⟨a, b⟩ := h1 m ho
    rw [a, b]
    by_cases hs : isT (tk T (opt T i wd n).1) 3 gSemi = true
    · rw [must_yes hs]
      simp only [hs, if_true]
      exact ⟨fun s e => ⟨trivial, Option.some.inj e⟩, fun e => by cases e⟩
    · rw [must_no hs]
      simp only [hs]
      exact ⟨fun s e => (by cases e), fun _ => rfl⟩
theorem stp_same (T : List Tok) (i : Nat) : (∀ s, (one T i).2 = some s → stpS T ⟨i, false⟩ = ⟨(one T i).1, false⟩ ∧ stpV T ⟨i, false⟩ = s) ∧ ((one T i).2 = none → stpS T ⟨i, false⟩ = ⟨(one T i).1, true⟩) := by
  unfold one stpS stpV
  rw [pass_open]
  by_cases ha : isT (tk T i) 1 wAsk = true
  · simp only [if_pos ha]
    rw [pass_yes ha]
    by_cases h1 : (tk T (i + 1)).k = 2
    · obtain ⟨a, b⟩ := take_yes (T := T) h1
      simp only [if_pos h1]
      rw [a]
      by_cases h2 : (tk T (i + 2)).k = 1
      · obtain ⟨c, d⟩ := take_yes (T := T) h2
        simp only [if_pos h2]
        rw [show (i + 1 + 1) = i + 2 from rfl, c, d]
        have hv : cntV T ⟨i + 1, false⟩ = sm (tk T (i + 1)).t := by unfold cntV numV sm; rw [b]
        rw [hv]
        exact fin_same T (i + 3) wWait 20 (fun n => ⟨0, ⟨#[]⟩, 0, sm (tk T (i + 1)).t, (tk T (i + 2)).t, 0, n⟩)
      · simp only [if_neg h2]
        rw [show (i + 1 + 1) = i + 2 from rfl, take_no h2]
        exact ⟨fun s e => (by cases e), fun _ => rfl⟩
    · simp only [if_neg h1]
      rw [take_no h1]
      exact ⟨fun s e => (by cases e), fun _ => rfl⟩
  · simp only [if_neg ha]
    by_cases hk : (tk T i).k = 1 ∧ kw (tk T i).t ≠ 0
    · simp only [if_pos hk]
      have e0 : kndS T ⟨i, false⟩ = ⟨i + 1, false⟩ := by
        unfold kndS
        rw [if_neg hk.2]
        exact (take_yes hk.1).1
      rw [e0]
      by_cases h1 : (tk T (i + 1)).k = 1
      · obtain ⟨a, b⟩ := take_yes (T := T) h1
        simp only [if_pos h1]
        rw [a, b]
        by_cases h2 : (tk T (i + 2)).k = 2
        · obtain ⟨c, d⟩ := take_yes (T := T) h2
          simp only [if_pos h2]
          have hv : numV T ⟨i + 1 + 1, false⟩ = valE 2 (tk T (i + 2)).t := by unfold numV; rw [show (i + 1 + 1) = i + 2 from rfl, d]
          rw [hv, show (i + 1 + 1) = i + 2 from rfl, c]
          exact fin_same T (i + 3) wTries 1 (fun n => ⟨kw (tk T i).t, (tk T (i + 1)).t, valE 2 (tk T (i + 2)).t, 0, ⟨#[]⟩, n, 0⟩)
        · simp only [if_neg h2]
          rw [show (i + 1 + 1) = i + 2 from rfl, take_no h2]
          exact ⟨fun s e => (by cases e), fun _ => rfl⟩
      · simp only [if_neg h1]
        rw [take_no h1]
        exact ⟨fun s e => (by cases e), fun _ => rfl⟩
    · simp only [if_neg hk]
      have e0 : kndS T ⟨i, false⟩ = ⟨i, true⟩ := by
        unfold kndS
        by_cases hz : kw (tk T i).t = 0
        · rw [if_pos hz]; rfl
        · rw [if_neg hz]
          exact take_no (fun e => hk ⟨e, hz⟩)
      rw [e0]
      exact ⟨fun s e => (by cases e), fun _ => rfl⟩
theorem opt_le {T : List Tok} (hT : Gd T) (i : Nat) (wd : ByteArray) (n : Int) (h : i < T.length) : i ≤ (opt T i wd n).1 ∧ (opt T i wd n).1 < T.length := by
  unfold opt
  by_cases h1 : isT (tk T i) 1 wd = true
  · have hk := ((isT_iff _ _ _).1 h1).1
    have hn := hT.next (i := i) (by rw [hk]; decide)
    rw [if_pos h1]
    by_cases h2 : (tk T (i + 1)).k = 2
    · have hn2 := hT.next (i := i + 1) (by rw [h2]; decide)
      rw [if_pos h2]; exact ⟨by simp, by simpa using hn2⟩
    · rw [if_neg h2]; exact ⟨by simp, by simpa using hn⟩
  · rw [if_neg h1]; exact ⟨by simp, by simpa using h⟩
theorem fin_le {T : List Tok} (hT : Gd T) (x : Nat × Option Int) (f : Int → Stp) (h : x.1 < T.length) : x.1 ≤ (fin T x f).1 ∧ (fin T x f).1 < T.length := by
  unfold fin
  cases hx : x.2 with
  | none => exact ⟨Nat.le_refl _, h⟩
  | some m =>
    by_cases hs : isT (tk T x.1) 3 gSemi = true
    · have hk := ((isT_iff _ _ _).1 hs).1
      have hn := hT.next (i := x.1) (by rw [hk]; decide)
      simp only [if_pos hs]; exact ⟨by omega, hn⟩
    · simp only [if_neg hs]; exact ⟨Nat.le_refl _, h⟩
theorem one_le {T : List Tok} (hT : Gd T) (i : Nat) (h : i < T.length) : i ≤ (one T i).1 ∧ (one T i).1 < T.length ∧ ((one T i).2 ≠ none → i < (one T i).1) := by
  unfold one
  by_cases ha : isT (tk T i) 1 wAsk = true
  · have hn := hT.next (i := i) (by rw [((isT_iff _ _ _).1 ha).1]; decide)
    rw [if_pos ha]
    by_cases h1 : (tk T (i + 1)).k = 2
    · have hn1 := hT.next (i := i + 1) (by rw [h1]; decide)
      rw [if_pos h1]
      by_cases h2 : (tk T (i + 2)).k = 1
      · have hn2 := hT.next (i := i + 2) (by rw [h2]; decide)
        rw [if_pos h2]
        have q1 := opt_le hT (i + 3) wWait 20 hn2
        have q2 := fin_le hT (opt T (i + 3) wWait 20) (fun n => ⟨0, ⟨#[]⟩, 0, sm (tk T (i + 1)).t, (tk T (i + 2)).t, 0, n⟩) q1.2
        exact ⟨by omega, q2.2, fun _ => by omega⟩
      · rw [if_neg h2]; exact ⟨by simp, hn1, fun e => absurd rfl e⟩
    · rw [if_neg h1]; exact ⟨by simp, hn, fun e => absurd rfl e⟩
  · rw [if_neg ha]
    by_cases hk : (tk T i).k = 1 ∧ kw (tk T i).t ≠ 0
    · have hn := hT.next (i := i) (by rw [hk.1]; decide)
      rw [if_pos hk]
      by_cases h1 : (tk T (i + 1)).k = 1
      · have hn1 := hT.next (i := i + 1) (by rw [h1]; decide)
        rw [if_pos h1]
        by_cases h2 : (tk T (i + 2)).k = 2
        · have hn2 := hT.next (i := i + 2) (by rw [h2]; decide)
          rw [if_pos h2]
          have q1 := opt_le hT (i + 3) wTries 1 hn2
          have q2 := fin_le hT (opt T (i + 3) wTries 1) (fun n => ⟨kw (tk T i).t, (tk T (i + 1)).t, valE 2 (tk T (i + 2)).t, 0, ⟨#[]⟩, n, 0⟩) q1.2
          exact ⟨by omega, q2.2, fun _ => by omega⟩
        · rw [if_neg h2]; exact ⟨by simp, hn1, fun e => absurd rfl e⟩
      · rw [if_neg h1]; exact ⟨by simp, hn, fun e => absurd rfl e⟩
    · rw [if_neg hk]; exact ⟨by simp, h, fun e => absurd rfl e⟩
theorem stp_le {T : List Tok} (hT : Gd T) (i : Nat) (h : i < T.length) : (stpS T ⟨i, false⟩).i < T.length ∧ ((stpS T ⟨i, false⟩).s = true ∨ i < (stpS T ⟨i, false⟩).i) := by
  obtain ⟨h1, h2⟩ := stp_same T i
  obtain ⟨l1, l2, l3⟩ := one_le hT i h
  cases ho : (one T i).2 with
  | none => rw [h2 ho]; exact ⟨l2, Or.inl rfl⟩
  | some s => rw [(h1 s ho).1]; exact ⟨l2, Or.inr (l3 (by rw [ho]; simp))⟩
theorem lop_stuck (T : List Tok) (g i : Nat) (L : List Stp) : lopS T (g + 1) ⟨i, true⟩ L = (⟨i, true⟩, L) := by unfold lopS; rw [if_pos rfl]
theorem lop_open (T : List Tok) (g i : Nat) (L : List Stp) : lopS T (g + 1) ⟨i, false⟩ L = if isT (tk T i) 3 gShut = true then (⟨i + 1, false⟩, L) else lopS T g (stpS T ⟨i, false⟩) (L ++ [stpV T ⟨i, false⟩]) := by
  show (if (false = true) then _ else _) = _
  rw [if_neg (by decide), pass_open]
  by_cases hs : isT (tk T i) 3 gShut = true
  · rw [if_pos hs, if_pos hs, pass_yes hs]
  · rw [if_neg hs, if_neg hs]
theorem lop_same {T : List Tok} (hT : Gd T) : ∀ (f g : Nat) (i : Nat) (L : List Stp), i < T.length → T.length - i < f → T.length - i + 1 < g → (∀ M, (stps T f i L).2 = some M → lopS T g ⟨i, false⟩ L = (⟨(stps T f i L).1, false⟩, M)) ∧ ((stps T f i L).2 = none → ∃ M, lopS T g ⟨i, false⟩ L = (⟨(stps T f i L).1, true⟩, M)) ∧ (stps T f i L).1 < T.length := by
  intro f
  induction f with
  | zero => intro g i L hi hf; omega
  | succ f ih =>
    intro g i L hi hf hg
    cases g with
    | zero => omega
    | succ g =>
      rw [lop_open]
      unfold stps
      by_cases hs : isT (tk T i) 3 gShut = true
      · have hn := hT.next (i := i) (by rw [((isT_iff _ _ _).1 hs).1]; decide)
        simp only [if_pos hs]
        refine ⟨fun M e => ?_, fun e => (by cases e), hn⟩
        simp only [Option.some.injEq] at e
        rw [e]
      · simp only [if_neg hs]
        obtain ⟨h1, h2⟩ := stp_same T i
        obtain ⟨l1, l2, l3⟩ := one_le hT i hi
        rcases hx : one T i with ⟨j, o⟩
        rw [hx] at h1 h2 l1 l2 l3
        cases o with
        | none =>
          refine ⟨fun M e => (by cases e), fun _ => ?_, l2⟩
          rw [h2 rfl]
          cases g with
          | zero => omega
          | succ g => exact ⟨_, lop_stuck _ _ _ _⟩
        | some s =>
          obtain ⟨a, b⟩ := h1 s rfl
          have := l3 (by simp)
          simp only at this l2
          rw [a, b]
          exact ih g j (L ++ [s]) l2 (by omega) (by omega)
theorem def_same {T : List Tok} (hT : Gd T) (i : Nat) (h : i < T.length) : (∀ nm L, (prs T i).2 = some (nm, L) → defR T i = (⟨(prs T i).1, false⟩, L) ∧ defN T i = nm) ∧ ((prs T i).2 = none → ∃ M, defR T i = (⟨(prs T i).1, true⟩, M)) ∧ (prs T i).1 < T.length := by
  unfold prs defR defN defQ
  by_cases h0 : isT (tk T i) 1 wSaga = true
  · have hn := hT.next (i := i) (by rw [((isT_iff _ _ _).1 h0).1]; decide)
    rw [must_yes h0]
    simp only [if_pos h0]
    by_cases h1 : (tk T (i + 1)).k = 1
    · have hn1 := hT.next (i := i + 1) (by rw [h1]; decide)
      obtain ⟨a, b⟩ := take_yes (T := T) h1
      simp only [if_pos h1]
      rw [a, b]
      by_cases h2 : isT (tk T (i + 2)) 3 gOpen = true
      · have hn2 := hT.next (i := i + 2) (by rw [((isT_iff _ _ _).1 h2).1]; decide)
        simp only [if_pos h2]
        rw [show i + 1 + 1 = i + 2 from rfl, must_yes h2]
        obtain ⟨q1, q2, q3⟩ := lop_same hT (T.length + 1) (T.length + 2) (i + 3) [] hn2 (by omega) (by omega)
        rcases hx : stps T (T.length + 1) (i + 3) [] with ⟨j, o⟩
        rw [hx] at q1 q2 q3
        cases o with
        | none => exact ⟨fun nm L e => (by cases e), fun _ => q2 rfl, q3⟩
        | some M =>
          refine ⟨fun nm L e => ?_, fun e => (by cases e), q3⟩
          simp only [Option.some.injEq, Prod.mk.injEq] at e
          obtain ⟨e1, e2⟩ := e
          subst e1 e2
          exact ⟨q1 _ rfl, rfl⟩
      · simp only [if_neg h2]
        rw [show i + 1 + 1 = i + 2 from rfl, must_no h2]
        exact ⟨fun nm L e => (by cases e), fun _ => ⟨_, lop_stuck _ _ _ _⟩, hn1⟩
    · simp only [if_neg h1]
      rw [take_no h1]
      exact ⟨fun nm L e => (by cases e), fun _ => ⟨_, lop_stuck _ _ _ _⟩, hn⟩
  · rw [must_no h0]
    simp only [if_neg h0]
    exact ⟨fun nm L e => (by cases e), fun _ => ⟨_, lop_stuck _ _ _ _⟩, h⟩
def pE (T : List Tok) (at' : Int) : Int := if Lex.ckE T = 80 then 80 else if 0 ≤ at' ∧ at' < T.length then (match (prs T at'.toNat).2 with | none => 81 | some (nm, L) => chE nm L) else 2
def pA (T : List Tok) (at' : Int) : Int := if Lex.ckE T = 80 then 0 else if 0 ≤ at' ∧ at' < T.length then (match (prs T at'.toNat).2 with | none => (tk T (prs T at'.toNat).1).p | some (nm, L) => if defB nm L = true then 0 else (tk T at'.toNat).p) else 0
def pT (T : List Tok) (at' : Int) : Int := if pE T at' = 0 then ((prs T at'.toNat).1 : Int) else 0
def pN (T : List Tok) (at' : Int) : ByteArray := if pE T at' = 0 then (match (prs T at'.toNat).2 with | none => ⟨#[]⟩ | some (nm, _) => nm) else ⟨#[]⟩
def pL (T : List Tok) (at' : Int) : List Stp := if pE T at' = 0 then (match (prs T at'.toNat).2 with | none => [] | some (_, L) => L) else []
end Go.Proofs.YtfobfpigbfepoaaDoor.Df
namespace Go.Proofs.YtfobfpigbfepoaaDoor.Lex
open _root_.Go.Proofs.YtfobfpigbfepoaaDoor.Act (letB digB sgnB nameB headB)
def bl1 (r : Bool) (b : UInt8) : Bool := if (b.toNat : Int) = 10 then false else if (b.toNat : Int) = 35 then true else r
def bad1 (r : Bool) (b : UInt8) : Bool := !bl1 r b && !decide ((b.toNat : Int) = 32) && !decide ((b.toNat : Int) = 9) && !decide ((b.toNat : Int) = 10)
def blf : Bool → List UInt8 → Option Bool
  | r, [] => some r
  | r, b :: t => if bad1 r b = true then none else blf (bl1 r b) t
def blanksB (l : List UInt8) : Bool := (blf false l).isSome
def pl (L : List UInt8) : Nat → List Tok → Prop
  | a, [] => a = L.length
  | a, x :: t => ∃ p : Nat, x.p = p ∧ a ≤ p ∧ p + x.t.size ≤ L.length ∧ (L.drop p).take x.t.size = x.t.data.toList ∧ blanksB ((L.drop a).take (p - a)) = true ∧ pl L (p + x.t.size) t
theorem may_kd {s : ByteArray} (h : kd s ≠ 0) : mayB (kd s) s = true := by
  unfold kd at h ⊢
  unfold mayB
  split
  · rename_i h1; simp [h1]
  · split
    · rename_i h1; simp [h1]
    · split
      · rename_i h1; simp [h1]
      · rename_i h1 h2 h3
        rw [if_neg h1, if_neg h2, if_neg h3] at h
        exact absurd rfl h
theorem okays : ∀ (f : Nat) (l : List UInt8) (a : Nat), l.length < f → (scn f l a).2 = none → ∃ I e, (scn f l a).1 = I ++ [e] ∧ endT e = true ∧ I.all okT = true := by
  intro f
  induction f with
  | zero => intro l a h; omega
  | succ f ih =>
    intro l a hf h
    cases l with
    | nil => exact ⟨[], _, rfl, by unfold endT; simp, rfl⟩
    | cons b t =>
      rw [List.length_cons] at hf
      unfold scn at h ⊢
      split at h
      · rename_i hb
        rw [if_pos hb]
        exact ih t (a + 1) (by omega) h
      · rename_i hb
        rw [if_neg hb]
        split at h
        · rename_i h35
          rw [if_pos h35]
          have := rem_pos t h35
          exact ih _ _ (by simp; omega) h
        · rename_i h35
          rw [if_neg h35]
          split at h
          · cases h
          · rename_i hk
            rw [if_neg hk]
            have := tl_pos b t
            obtain ⟨I, e, h1, h2, h3⟩ := ih _ _ (by simp; omega) h
            refine ⟨⟨kd (pc (b :: t)), pc (b :: t), a⟩ :: I, e, ?_, h2, ?_⟩
            · show _ :: (scn f _ _).1 = _
              rw [h1]; rfl
            · rw [List.all_cons, h3, Bool.and_true]
              exact may_kd hk
theorem okays_S (L : List UInt8) (h : (S L 0).2 = none) : ckE (S L 0).1 ≠ 80 := by
  obtain ⟨I, e, h1, h2, h3⟩ := okays (L.length + 1) L 0 (by omega) h
  show ckE (scn (L.length + 1) L 0).1 ≠ 80
  rw [h1, ck_snoc, if_pos h2, if_pos h3]
  split <;> decide
theorem tok_rng : ∀ (f : Nat) (l : List UInt8) (a : Nat), ∀ x ∈ (scn f l a).1, (∃ n : Nat, x.p = n ∧ n ≤ a + l.length) ∧ x.t.size ≤ l.length := by
  intro f
  induction f with
  | zero => intro l a x hx; simp [scn] at hx
  | succ f ih =>
    intro l a x hx
    cases l with
    | nil => simp [scn] at hx; subst hx; exact ⟨⟨a, rfl, by omega⟩, by show (0 : Nat) ≤ _; omega⟩
    | cons b t =>
      unfold scn at hx
      split at hx
      · obtain ⟨⟨n, h1, h2⟩, h3⟩ := ih t (a + 1) x hx
        exact ⟨⟨n, h1, by simp; omega⟩, by simp; omega⟩
      · split at hx
        · obtain ⟨⟨n, h1, h2⟩, h3⟩ := ih _ _ x hx
          have h4 := run_le remB (b :: t)
          rw [List.length_drop] at h2 h3
          exact ⟨⟨n, h1, by omega⟩, by omega⟩
        · split at hx
          · simp at hx
          · have h4 := tl_le (b :: t)
            rcases List.mem_cons.1 hx with rfl | hx
            · exact ⟨⟨a, rfl, by omega⟩, by show (pc (b :: t)).size ≤ _; rw [pc_size]; exact h4⟩
            · obtain ⟨⟨n, h1, h2⟩, h3⟩ := ih _ _ x hx
              rw [List.length_drop] at h2 h3
              exact ⟨⟨n, h1, by omega⟩, by omega⟩
end Go.Proofs.YtfobfpigbfepoaaDoor.Lex
namespace Go.Proofs.YtfobfpigbfepoaaDoor.Bk
open Df (Stp)
def lt (x y : ByteArray) : Bool := Op.bytesLess x.toList y.toList
theorem bl_irrefl : ∀ l : List UInt8, Op.bytesLess l l = false
  | [] => rfl
  | a :: x => by simp [Op.bytesLess, bl_irrefl x]
theorem bl_trans : ∀ x y z : List UInt8, Op.bytesLess x y = true → Op.bytesLess y z = true → Op.bytesLess x z = true
  | x, [], _, h, _ => by cases x <;> simp [Op.bytesLess] at h
  | _, b :: y, [], _, h => by simp [Op.bytesLess] at h
  | [], _ :: _, _ :: _, _, _ => rfl
  | a :: x, b :: y, c :: z, h1, h2 => by
    simp only [Op.bytesLess, Bool.or_eq_true, Bool.and_eq_true, decide_eq_true_eq, beq_iff_eq] at h1 h2 ⊢
    rcases h1 with h1 | ⟨rfl, h1⟩
    · rcases h2 with h2 | ⟨rfl, h2⟩
      · exact Or.inl (UInt8.lt_trans h1 h2)
      · exact Or.inl h1
    · rcases h2 with h2 | ⟨rfl, h2⟩
      · exact Or.inl h2
      · exact Or.inr ⟨rfl, bl_trans x y z h1 h2⟩
theorem bl_tri : ∀ x y : List UInt8, Op.bytesLess x y = false → Op.bytesLess y x = false → x = y
  | [], [], _, _ => rfl
  | [], _ :: _, h, _ => by simp [Op.bytesLess] at h
  | _ :: _, [], _, h => by simp [Op.bytesLess] at h
  | a :: x, b :: y, h1, h2 => by
    simp only [Op.bytesLess, Bool.or_eq_false_iff, Bool.and_eq_false_iff, decide_eq_false_iff_not] at h1 h2
    have e : a = b := UInt8.le_antisymm (UInt8.not_lt.1 h2.1) (UInt8.not_lt.1 h1.1)
    subst e
    rw [bl_tri x y (by simpa using h1.2) (by simpa using h2.2)]
theorem cmp_sign : ∀ x y : List UInt8, (Lib.compareBytes x y < 0 ↔ Op.bytesLess x y = true) ∧ (Lib.compareBytes x y = 0 ↔ x = y)
  | [], [] => by simp [Lib.compareBytes, Op.bytesLess]
  | [], _ :: _ => by simp [Lib.compareBytes, Op.bytesLess]
  | _ :: _, [] => by simp [Lib.compareBytes, Op.bytesLess]
  | a :: x, b :: y => by
    obtain ⟨h1, h2⟩ := cmp_sign x y
    unfold Lib.compareBytes Op.bytesLess
    by_cases hab : a < b
    · rw [if_pos hab]
      refine ⟨by simp [hab], ?_⟩
      simp
      intro e; subst e; exact absurd hab (UInt8.lt_irrefl a)
    · rw [if_neg hab]
      by_cases hba : b < a
      · rw [if_pos hba]
        have : ¬ a = b := fun e => by subst e; exact hab hba
        simp [hab, this]
      · rw [if_neg hba]
        have e : a = b := UInt8.le_antisymm (UInt8.not_lt.1 hba) (UInt8.not_lt.1 hab)
        subst e
        simp [h1, h2, hab]
theorem toL (x : ByteArray) : x.toList = x.data.toList := ByteArray.toList_eq x
theorem lt_irrefl (x : ByteArray) : lt x x = false := bl_irrefl _
theorem lt_trans {x y z : ByteArray} (h : lt x y = true) (k : lt y z = true) : lt x z = true := bl_trans _ _ _ h k
theorem toL_inj {x y : ByteArray} (h : x.toList = y.toList) : x = y := by
  rw [toL, toL] at h
  cases x; cases y
  simp at h
  rw [h]
theorem lt_tri {x y : ByteArray} (h : lt x y = false) (k : lt y x = false) : x = y := toL_inj (bl_tri _ _ h k)
theorem lt_asymm {x y : ByteArray} (h : lt x y = true) : lt y x = false := by
  cases k : lt y x with
  | false => rfl
  | true => have := lt_trans h k; rw [lt_irrefl] at this; cases this
theorem lt_ne {x y : ByteArray} (h : lt x y = true) : x ≠ y := fun e => by rw [e, lt_irrefl] at h; cases h
theorem ge_trans {x y z : ByteArray} (h : lt x z = false) (k : lt x y = true) : lt y z = false := by
  cases e : lt y z with
  | false => rfl
  | true => rw [lt_trans k e] at h; cases h
theorem le_not (x y : ByteArray) : (Op.bytesLess x.toList y.toList || x.toList == y.toList) = !lt y x := by
  cases h : lt y x with
  | true =>
    have h1 : Op.bytesLess x.toList y.toList = false := lt_asymm h
    have h2 : (x.toList == y.toList) = false := by
      rw [beq_eq_false_iff_ne]
      intro e; exact lt_ne h (toL_inj e).symm
    rw [h1, h2]; rfl
  | false =>
    cases h1 : Op.bytesLess x.toList y.toList with
    | true => rfl
    | false =>
      have e : x = y := lt_tri h1 h
      subst e; simp
def cmpE (x y : ByteArray) : Int := Lib.compareBytes x.data.toList y.data.toList
theorem cmp_neg (x y : ByteArray) : cmpE x y < 0 ↔ lt x y = true := by unfold cmpE lt; rw [toL, toL]; exact (cmp_sign _ _).1
theorem cmp_zero (x y : ByteArray) : cmpE x y = 0 ↔ x = y := by
  unfold cmpE
  rw [(cmp_sign _ _).2]
  constructor
  · intro h; exact toL_inj (by rw [toL, toL]; exact h)
  · intro h; rw [h]
def upB : List ByteArray → Bool
  | [] => true
  | [_] => true
  | x :: y :: t => lt x y && upB (y :: t)
theorem up_iff : ∀ L : List ByteArray, upB L = true ↔ ∀ j (h : j + 1 < L.length), lt L[j] L[j + 1] = true
  | [] => by simp [upB]
  | [_] => by simp [upB]
  | x :: y :: t => by
    rw [upB, Bool.and_eq_true, up_iff (y :: t)]
    constructor
    · rintro ⟨h1, h2⟩ j hj
      cases j with
      | zero => exact h1
      | succ j => exact h2 j (by simpa using hj)
    · intro h
      exact ⟨h 0 (by simp), fun j hj => h (j + 1) (by simpa using hj)⟩
theorem up_lt {L : List ByteArray} (h : upB L = true) : ∀ i j (hi : i < j) (hj : j < L.length), lt L[i] L[j] = true := by
  rw [up_iff] at h
  intro i j hij
  induction j with
  | zero => omega
  | succ j ih =>
    intro hj
    by_cases e : i = j
    · subst e; exact h i hj
    · exact lt_trans (ih (by omega) (by omega)) (h j hj)
def hasB (L : List ByteArray) (s : ByteArray) : Bool := L.any (fun x => decide (x = s))
theorem has_iff (L : List ByteArray) (s : ByteArray) : hasB L s = true ↔ s ∈ L := by
  unfold hasB; rw [List.any_eq_true]
  constructor
  · rintro ⟨x, hx, e⟩; rw [decide_eq_true_eq] at e; rw [← e]; exact hx
  · intro h; exact ⟨s, h, decide_eq_true rfl⟩
def pos (L : List ByteArray) (s : ByteArray) : Nat := (L.takeWhile (fun x => lt x s)).length
theorem pos_le (L : List ByteArray) (s : ByteArray) : pos L s ≤ L.length := by
  unfold pos; exact (List.takeWhile_sublist _).length_le
theorem pos_iff : ∀ (L : List ByteArray) (s : ByteArray), upB L = true → ∀ j (h : j < L.length), (lt L[j] s = true ↔ j < pos L s)
  | [], _, _, j, h => by simp at h
  | x :: t, s, hu, j, h => by
    have hut : upB t = true := by
      cases t with
      | nil => rfl
      | cons y t => rw [upB, Bool.and_eq_true] at hu; exact hu.2
    cases hx : lt x s with
    | true =>
      have hp : pos (x :: t) s = pos t s + 1 := by unfold pos; rw [List.takeWhile_cons, hx]; simp
      rw [hp]
      cases j with
      | zero => simp [hx]
      | succ j => rw [List.getElem_cons_succ, pos_iff t s hut j (by simpa using h)]; omega
    | false =>
      have hp : pos (x :: t) s = 0 := by unfold pos; rw [List.takeWhile_cons, hx]; simp
      rw [hp]
      have : lt (x :: t)[j] s = false := by
        cases j with
        | zero => exact hx
        | succ j => exact ge_trans hx (up_lt hu 0 (j + 1) (by omega) h)
      simp [this]
theorem pos_eq {L : List ByteArray} {s : ByteArray} (hu : upB L = true) (j : Nat) (h : j < L.length) (e : L[j] = s) : pos L s = j := by
  have h1 : ¬ j < pos L s := by rw [← pos_iff L s hu j h, e, lt_irrefl]; simp
  by_cases h2 : pos L s < j
  · have := (pos_iff L s hu (pos L s) (by omega))
    have h3 := up_lt hu _ _ h2 h
    rw [e] at h3
    rw [h3] at this; simp at this
  · omega
theorem pos_mem {L : List ByteArray} {s : ByteArray} (hu : upB L = true) (hm : s ∈ L) : ∃ h : pos L s < L.length, L[pos L s] = s := by
  obtain ⟨j, hj, e⟩ := List.getElem_of_mem hm
  have := pos_eq hu j hj e
  exact ⟨by omega, by simp only [this, e]⟩
theorem pos_gt {L : List ByteArray} {s : ByteArray} (hu : upB L = true) (hm : s ∉ L) : ∀ j (h : j < L.length), pos L s ≤ j → lt s L[j] = true := by
  intro j h hj
  have h1 : lt L[j] s = false := by
    cases e : lt L[j] s with
    | false => rfl
    | true => have := (pos_iff L s hu j h).1 e; omega
  cases e : lt s L[j] with
  | true => rfl
  | false => exact absurd (List.getElem_mem h) (by rw [lt_tri h1 e]; exact hm)
theorem up_ins {L : List ByteArray} {s : ByteArray} (hu : upB L = true) (hm : s ∉ L) : upB (L.take (pos L s) ++ s :: L.drop (pos L s)) = true := by
  have hp := pos_le L s
  rw [up_iff]
  intro j hj
  have hlen : (L.take (pos L s)).length = pos L s := by rw [List.length_take]; omega
  rw [List.length_append, List.length_cons, List.length_drop, hlen] at hj
  by_cases h1 : j + 1 < pos L s
  · rw [List.getElem_append_left (by omega), List.getElem_append_left (by omega), List.getElem_take, List.getElem_take]
    exact up_lt hu _ _ (by omega) _
  · by_cases h2 : j + 1 = pos L s
    · rw [List.getElem_append_left (by omega), List.getElem_append_right (by omega), List.getElem_take]
      simp only [hlen, h2, Nat.sub_self, List.getElem_cons_zero]
      exact (pos_iff L s hu j (by omega)).2 (by omega)
    · rw [List.getElem_append_right (by omega), List.getElem_append_right (by omega)]
      simp only [hlen]
      have e1 : j + 1 - pos L s = (j - pos L s) + 1 := by omega
      simp only [e1, List.getElem_cons_succ, List.getElem_drop]
      by_cases h3 : j = pos L s
      · simp only [h3, Nat.sub_self, List.getElem_cons_zero]
        exact pos_gt hu hm _ _ (by omega)
      · have e2 : j - pos L s = (j - pos L s - 1) + 1 := by omega
        rw [List.getElem_cons, dif_neg (by omega), List.getElem_drop]
        exact up_lt hu _ _ (by omega) _
structure Dn where
  nm : ByteArray
  L : List Stp
theorem dn_ext {a b : Dn} (h : a.nm = b.nm) (k : a.L = b.L) : a = b := by cases a; cases b; simp at h k; subst h k; rfl
def nms (D : List Dn) : List ByteArray := D.map Dn.nm
theorem nms_len (D : List Dn) : (nms D).length = D.length := by simp [nms]
theorem nms_get (D : List Dn) (j : Nat) (h : j < D.length) : (nms D)[j]'(by rw [nms_len]; exact h) = D[j].nm := by simp [nms]
def okB (d : Dn) : Bool := Df.defB d.nm d.L
def mayB (D : List Dn) : Bool := decide (D.length ≤ 8) && D.all okB && upB (nms D)
theorem may_iff (D : List Dn) : mayB D = true ↔ D.length ≤ 8 ∧ (∀ d ∈ D, okB d = true) ∧ upB (nms D) = true := by
  unfold mayB; simp only [Bool.and_eq_true, decide_eq_true_eq, List.all_eq_true, and_assoc]
def mayE (D : List Dn) : Int := if mayB D = true then 0 else 2
def ins (D : List Dn) (d : Dn) : List Dn := D.take (pos (nms D) d.nm) ++ d :: D.drop (pos (nms D) d.nm)
def putE (D : List Dn) (d : Dn) : Int := if okB d = false then 90 else if hasB (nms D) d.nm = true then 71 else if 8 ≤ D.length then 3 else 0
def addE : List Dn → List Dn → Int
  | _, [] => 0
  | D, d :: t => if putE D d = 0 then addE (ins D d) t else putE D d
def addD : List Dn → List Dn → List Dn
  | D, [] => D
  | D, d :: t => if putE D d = 0 then addD (ins D d) t else []
theorem ins_len (D : List Dn) (d : Dn) : (ins D d).length = D.length + 1 := by
  have := pos_le (nms D) d.nm
  rw [nms_len] at this
  unfold ins
  rw [List.length_append, List.length_cons, List.length_take, List.length_drop]; omega
theorem ins_nms (D : List Dn) (d : Dn) : nms (ins D d) = (nms D).take (pos (nms D) d.nm) ++ d.nm :: (nms D).drop (pos (nms D) d.nm) := by
  unfold ins nms
  rw [List.map_append, List.map_cons, List.map_take, List.map_drop]
theorem ins_mem (D : List Dn) (d x : Dn) : x ∈ ins D d ↔ x = d ∨ x ∈ D := by
  have h : x ∈ D ↔ x ∈ D.take (pos (nms D) d.nm) ∨ x ∈ D.drop (pos (nms D) d.nm) := by
    rw [← List.mem_append, List.take_append_drop]
  unfold ins
  rw [List.mem_append, List.mem_cons, h]
  constructor
  · rintro (h | h | h)
    · exact Or.inr (Or.inl h)
    · exact Or.inl h
    · exact Or.inr (Or.inr h)
  · rintro (h | h | h)
    · exact Or.inr (Or.inl h)
    · exact Or.inl h
    · exact Or.inr (Or.inr h)
theorem put_zero {D : List Dn} {d : Dn} : putE D d = 0 ↔ okB d = true ∧ d.nm ∉ nms D ∧ D.length < 8 := by
  unfold putE
  cases h1 : okB d with
  | false => simp
  | true =>
    cases h2 : hasB (nms D) d.nm with
    | true => simp [(has_iff _ _).1 h2]
    | false =>
      have : d.nm ∉ nms D := fun h => by rw [(has_iff _ _).2 h] at h2; cases h2
      by_cases h3 : 8 ≤ D.length
      · simp [h3]
      · simp [h3, this]; omega
theorem ins_may {D : List Dn} {d : Dn} (h : mayB D = true) (hp : putE D d = 0) : mayB (ins D d) = true := by
  obtain ⟨h1, h2, h3⟩ := (may_iff D).1 h
  obtain ⟨p1, p2, p3⟩ := put_zero.1 hp
  refine (may_iff _).2 ⟨by rw [ins_len]; omega, fun x hx => ?_, ?_⟩
  · rcases (ins_mem D d x).1 hx with rfl | hx
    · exact p1
    · exact h2 x hx
  · rw [ins_nms]; exact up_ins h3 p2
theorem may_nil : mayB [] = true := by decide
theorem may_ok {D : List Dn} (h : mayB D = true) : mayE D = 0 := by unfold mayE; rw [if_pos h]
theorem may_not {D : List Dn} (h : mayB D = false) : mayE D = 2 := by unfold mayE; rw [h]; rfl
theorem add_may : ∀ (M D : List Dn), mayB D = true → addE D M = 0 → mayB (addD D M) = true
  | [], D, h, _ => h
  | d :: t, D, h, he => by
    unfold addE at he
    unfold addD
    by_cases hp : putE D d = 0
    · rw [if_pos hp] at he ⊢
      exact add_may t (ins D d) (ins_may h hp) he
    · rw [if_neg hp] at he; exact absurd he hp
theorem add_no : ∀ (M D : List Dn), addE D M ≠ 0 → addD D M = []
  | [], D, h => absurd rfl h
  | d :: t, D, h => by
    unfold addE at h
    unfold addD
    by_cases hp : putE D d = 0
    · rw [if_pos hp] at h ⊢; exact add_no t _ h
    · rw [if_neg hp]
theorem may_big {D : List Dn} (h : 8 < D.length) : mayB D = false := by
  unfold mayB; rw [decide_eq_false (by omega)]; rfl
theorem may_bad {D : List Dn} (j : Nat) (h : j < D.length) (hb : okB D[j] = false) : mayB D = false := by
  cases e : mayB D with
  | false => rfl
  | true => have := ((may_iff D).1 e).2.1 D[j] (List.getElem_mem h); rw [hb] at this; cases this
theorem may_down {D : List Dn} (j : Nat) (h : j + 1 < D.length) (hb : lt D[j].nm D[j + 1].nm = false) : mayB D = false := by
  cases e : mayB D with
  | false => rfl
  | true =>
    have := (up_iff _).1 ((may_iff D).1 e).2.2 j (by rw [nms_len]; exact h)
    rw [nms_get D j (by omega), nms_get D (j + 1) h, hb] at this; cases this
theorem may_all {D : List Dn} (h8 : D.length ≤ 8) (h1 : ∀ j (h : j < D.length), okB D[j] = true) (h2 : ∀ j (h : j + 1 < D.length), lt D[j].nm D[j + 1].nm = true) : mayB D = true := by
  refine (may_iff D).2 ⟨h8, fun d hd => ?_, (up_iff _).2 fun j hj => ?_⟩
  · obtain ⟨j, hj, rfl⟩ := List.getElem_of_mem hd
    exact h1 j hj
  · rw [nms_len] at hj
    rw [nms_get D j (by omega), nms_get D (j + 1) hj]; exact h2 j hj
theorem add_step (D M : List Dn) (k : Nat) (hk : k < M.length) (h : addE D (M.take k) = 0) : addE D (M.take (k + 1)) = putE (addD D (M.take k)) M[k] ∧ (putE (addD D (M.take k)) M[k] = 0 → addD D (M.take (k + 1)) = ins (addD D (M.take k)) M[k]) := by
  induction M generalizing D k with
  | nil => simp at hk
  | cons d t ih =>
    cases k with
    | zero =>
      simp only [List.take_zero, List.getElem_cons_zero, Nat.zero_add, List.take_succ_cons]
      simp only [addE, addD]
      constructor
      · by_cases hp : putE D d = 0
        · rw [if_pos hp, hp]
        · rw [if_neg hp]
      · intro hp; rw [if_pos hp]
    | succ k =>
      simp only [List.take_succ_cons, addE, addD, List.getElem_cons_succ] at h ⊢
      by_cases hp : putE D d = 0
      · rw [if_pos hp] at h ⊢
        rw [if_pos hp, if_pos hp]
        exact ih (ins D d) k (by simpa using hk) h
      · rw [if_neg hp] at h; exact absurd h hp
theorem add_stop (D M : List Dn) (k : Nat) (hk : k < M.length) (h : addE D (M.take k) = 0) (hp : putE (addD D (M.take k)) M[k] ≠ 0) : addE D M = putE (addD D (M.take k)) M[k] := by
  induction M generalizing D k with
  | nil => simp at hk
  | cons d t ih =>
    cases k with
    | zero =>
      simp only [List.take_zero, List.getElem_cons_zero, addD] at hp ⊢
      simp only [addE]; rw [if_neg hp]
    | succ k =>
      simp only [List.take_succ_cons, addE, addD, List.getElem_cons_succ] at h hp ⊢
      by_cases hq : putE D d = 0
      · rw [if_pos hq] at h hp ⊢
        rw [if_pos hq]
        exact ih (ins D d) k (by simpa using hk) h hp
      · rw [if_neg hq] at h; exact absurd h hq
def fnd (D : List Dn) (s : ByteArray) : Dn := if mayB D = true ∧ hasB (nms D) s = true then D.getD (pos (nms D) s) ⟨⟨#[]⟩, []⟩ else ⟨⟨#[]⟩, []⟩
def fndB (D : List Dn) (s : ByteArray) : Bool := mayB D && hasB (nms D) s
theorem fnd_at {D : List Dn} (h : mayB D = true) (j : Nat) (hj : j < D.length) : fnd D D[j].nm = D[j] ∧ fndB D D[j].nm = true := by
  obtain ⟨h1, h2, h3⟩ := (may_iff D).1 h
  have hp : pos (nms D) D[j].nm = j := pos_eq h3 j (by rw [nms_len]; exact hj) (nms_get D j hj)
  have hh : hasB (nms D) D[j].nm = true := (has_iff _ _).2 (List.mem_map.2 ⟨D[j], List.getElem_mem hj, rfl⟩)
  constructor
  · unfold fnd; rw [if_pos ⟨h, hh⟩, hp, List.getD_eq_getElem?_getD, List.getElem?_eq_getElem hj]; rfl
  · unfold fndB; rw [h, hh]; rfl
end Go.Proofs.YtfobfpigbfepoaaDoor.Bk
