/- def: the methods of a place. -/
import Derived.Test.YtdliljijgokpjaaDoorDefK
import Derived.BigRegion
namespace Go.Proofs.YtdliljijgokpjaaDoor
open Go.RowKit
open Lex (Tok)
open Df (Stp St tk Gd isT passB passS mustS takeB takeV takeS)

theorem Rd.tok {w : World} {b m : Nat} {ad : Option Addr} {T : List Tok} {cap : Nat} {q : St} (h : Rd w b m ad T cap q) (hi : q.i < T.length) : ∃ tb off, ad = some ⟨tb, off, none⟩ ∧ tb < w.heap.size ∧ w.cell? ⟨tb, off + q.i * 3, none⟩ = some (.int .i64 (tk T q.i).k) ∧ w.cell? ⟨tb, off + q.i * 3 + 1, none⟩ = some (.string (tk T q.i).t) ∧ w.cell? ⟨tb, off + q.i * 3 + 2, none⟩ = some (.int .i64 (tk T q.i).p) := by
  rw [Df.tk_get T q.i hi]
  exact h.ts q.i hi

set_option maxHeartbeats 2000000 in
theorem dHere_any (b m : Nat) (ad : Option Addr) (T : List Tok) (cap : Nat) (q : St) (w : World) (h : Rd w b m ad T cap q) (hi : q.i < T.length) :
    Calls Tryd.prog 36 #[.pointer (some ⟨b, 0, none⟩)] w fun e w' => e = .returned (.agg #[.int .i64 (tk T q.i).k, .string (tk T q.i).t, .int .i64 (tk T q.i).p]) ∧ Gr w w' := by
  obtain ⟨tb, off, rfl, htb, t0, t1, t2⟩ := h.tok hi
  obtain ⟨c0, c1, c2, c3, f1, f2, lt, ts, na, mp, nm⟩ := h
  generalize tk T q.i = x at *
  obtain ⟨xk, xt, xp⟩ := x
  obtain ⟨i, s⟩ := q
  simp only at *
  clear ts na mp nm c2 c3 f1 f2
  go_enter Tryd.func36, Tryd.ntmps36
  go_wp2
  go_region
  go_wp2
  refine bodyPost_ret (v := .agg #[.int .i64 xk, .string xt, .int .i64 xp]) (by simp [results, Tryd.results36, go_sem]) rfl ⟨rfl, ?_⟩
  exact (by (repeat' (first | with_reducible exact Gr.refl _ | with_reducible refine Gr.set ?_ _ ?_ _ | with_reducible refine Gr.alloc ?_ | with_reducible refine Gr.drew ?_ | with_reducible refine Gr.trans ?_ (by assumption))) <;> (first | (simp; done) | (simp; omega) | omega))

set_option maxHeartbeats 4000000 in
set_option maxRecDepth 100000 in
theorem dTake_any (b m : Nat) (ad : Option Addr) (T : List Tok) (cap : Nat) (q : St) (k : Int) (w : World) (h : Rd w b m ad T cap q) (hT : Gd T) (hi : q.i < T.length) (hn : T.length ≤ 5000) :
    Calls Tryd.prog 55 #[.pointer (some ⟨b, 0, none⟩), .int .i64 k] w fun e w' => e = .returned (.string (takeV T q k)) ∧ Rd w' b m ad T cap (takeS T q k) ∧ GB b w w' := by
  have HH : Hid (∀ w', Rd w' b m ad T cap q → Calls Tryd.prog 36 #[.pointer (some ⟨b, 0, none⟩)] w' fun e w2 => e = .returned (.agg #[.int .i64 (tk T q.i).k, .string (tk T q.i).t, .int .i64 (tk T q.i).p]) ∧ Gr w' w2) := fun w' h' => dHere_any b m ad T cap q w' h' hi
  have HC : Hid (∀ w', Calls Tryd.prog 75 #[.string (tk T q.i).t] w' fun e w2 => e = .returned (.string (tk T q.i).t) ∧ Gr w' w2) := fun w' => clone_any _ w' (by have := hT.size q.i; omega)
  have HB : Hid (takeB T q k = (!q.s && decide ((tk T q.i).k = k))) := rfl
  have HV : Hid (takeV T q k = if takeB T q k = true then (tk T q.i).t else ⟨#[]⟩) := rfl
  have HS : Hid (takeS T q k = if takeB T q k = true then ⟨q.i + 1, q.s⟩ else ⟨q.i, true⟩) := rfl
  have HR : Hid (Rd w b m ad T cap q) := h
  obtain ⟨i, st⟩ := q
  simp only at *
  generalize takeV T ⟨i, st⟩ k = TV at *
  generalize takeS T ⟨i, st⟩ k = TS at *
  generalize takeB T ⟨i, st⟩ k = TB at *
  generalize tk T i = x at *
  obtain ⟨xk, xt, xp⟩ := x
  simp only at *
  have e2 : wrap64 ((i : Int) + 1) = ((i + 1 : Nat) : Int) := by unfold wrap64; omega
  obtain ⟨j, hj⟩ : ∃ j, j = i + 1 := ⟨_, rfl⟩
  rw [← hj] at e2 HS
  clear hT hi hn h
  go_enter Tryd.func55, Tryd.ntmps55
  go_wp2_with fail
  refine (HH.out _ HR.out).mono ?_
  rintro e w1 ⟨rfl, hg1⟩
  have HG1 : Hid (Gr w w1) := hg1
  have HR1 : Hid (Rd (w1.alloc (.cells #[.int .i64 xk, .string xt, .int .i64 xp] 66)) b m ad T cap ⟨i, st⟩) := (HR.out.gr hg1).gr (Gr.refl _).alloc
  obtain ⟨c0, c1, c2, c3, f1, f2, lt, _, _, _, _⟩ := HR.out.gr hg1
  simp only at c0 c1 c2 c3
  clear hg1
  cases st with
  | true =>
    obtain rfl : TB = false := HB.out
    have ev : Hid (TV = ⟨#[]⟩ ∧ TS = ⟨i, true⟩) := ⟨HV.out, HS.out⟩
    clear HB HV HS
    go_wp2
    go_ret
    refine ⟨by rw [ev.out.1]; rfl, ?_, ?_⟩
    · rw [ev.out.2]
      first | exact HR1.out.set2 true | exact ((HR.out.gr HG1.out).set2 true).gr (Gr.refl _).alloc
    · first | exact GB.setNew ((GB.ofGr HG1.out).alloc) ⟨b, _, none⟩ _ (Or.inr rfl) | exact GB.alloc (GB.setNew (GB.ofGr HG1.out) ⟨b, _, none⟩ _ (Or.inr rfl))
  | false =>
    by_cases hk : xk = k
    · have e0 : (xk != k) = false := by simpa using hk
      obtain rfl : TB = true := by rw [HB.out, decide_eq_true hk]; rfl
      have ev : Hid (TV = xt ∧ TS = ⟨j, false⟩) := ⟨HV.out, HS.out⟩
      clear HB HV HS hk hj
      go_wp2_with fail
      refine (HC.out _).mono ?_
      rintro e w2 ⟨rfl, hg2⟩
      have HG2 := Lib.hid hg2
      clear hg2
      go_wp2
      go_ret
      refine ⟨by rw [ev.out.1]; rfl, ?_, ?_⟩
      · rw [ev.out.2]
        refine Rd.gr ?_ HG2.out
        first | exact HR1.out.set1 j | exact ((HR.out.gr HG1.out).set1 j).gr (Gr.refl _).alloc
      · refine GB.gr ?_ HG2.out
        first | exact GB.setNew ((GB.ofGr HG1.out).alloc) ⟨b, _, none⟩ _ (Or.inr rfl) | exact GB.alloc (GB.setNew (GB.ofGr HG1.out) ⟨b, _, none⟩ _ (Or.inr rfl))
    · have e0 : (xk != k) = true := by simpa using hk
      obtain rfl : TB = false := by rw [HB.out, decide_eq_false hk]; rfl
      have ev : Hid (TV = ⟨#[]⟩ ∧ TS = ⟨i, true⟩) := ⟨HV.out, HS.out⟩
      clear HB HV HS hk hj
      go_wp2
      go_ret
      refine ⟨by rw [ev.out.1]; rfl, ?_, ?_⟩
      · rw [ev.out.2]
        first | exact HR1.out.set2 true | exact ((HR.out.gr HG1.out).set2 true).gr (Gr.refl _).alloc
      · first | exact GB.setNew ((GB.ofGr HG1.out).alloc) ⟨b, _, none⟩ _ (Or.inr rfl) | exact GB.alloc (GB.setNew (GB.ofGr HG1.out) ⟨b, _, none⟩ _ (Or.inr rfl))

set_option maxHeartbeats 4000000 in
set_option maxRecDepth 100000 in
theorem dPass_any (b m : Nat) (ad : Option Addr) (T : List Tok) (cap : Nat) (q : St) (k : Int) (t : ByteArray) (w : World) (h : Rd w b m ad T cap q) (hi : q.i < T.length) (hn : T.length ≤ 5000) :
    Calls Tryd.prog 56 #[.pointer (some ⟨b, 0, none⟩), .int .i64 k, .string t] w fun e w' => e = .returned (.bool (passB T q k t)) ∧ Rd w' b m ad T cap (passS T q k t) ∧ GB b w w' := by
  have HH : Hid (∀ w', Rd w' b m ad T cap q → Calls Tryd.prog 36 #[.pointer (some ⟨b, 0, none⟩)] w' fun e w2 => e = .returned (.agg #[.int .i64 (tk T q.i).k, .string (tk T q.i).t, .int .i64 (tk T q.i).p]) ∧ Gr w' w2) := fun w' h' => dHere_any b m ad T cap q w' h' hi
  have HB : Hid (passB T q k t = (!q.s && (decide ((tk T q.i).k = k) && decide ((tk T q.i).t = t)))) := rfl
  have HS : Hid (passS T q k t = if passB T q k t = true then ⟨q.i + 1, q.s⟩ else q) := rfl
  have HR : Hid (Rd w b m ad T cap q) := h
  obtain ⟨i, st⟩ := q
  simp only at *
  generalize passS T ⟨i, st⟩ k t = TS at *
  generalize passB T ⟨i, st⟩ k t = TB at *
  generalize tk T i = x at *
  obtain ⟨xk, xt, xp⟩ := x
  simp only at *
  have e2 : wrap64 ((i : Int) + 1) = ((i + 1 : Nat) : Int) := by unfold wrap64; omega
  obtain ⟨j, hj⟩ : ∃ j, j = i + 1 := ⟨_, rfl⟩
  rw [← hj] at e2 HS
  have ht := text_ne xt t.data.toList
  rw [Lex.bytes_list, ← show t.toList = t.data.toList from ByteArray.toList_eq t] at ht
  clear hi hn h
  go_enter Tryd.func56, Tryd.ntmps56
  go_wp2_with fail
  refine (HH.out _ HR.out).mono ?_
  rintro e w1 ⟨rfl, hg1⟩
  have HG1 : Hid (Gr w w1) := hg1
  have HR1 : Hid (Rd (w1.alloc (.cells #[.int .i64 xk, .string xt, .int .i64 xp] 66)) b m ad T cap ⟨i, st⟩) := (HR.out.gr hg1).gr (Gr.refl _).alloc
  obtain ⟨c0, c1, c2, c3, f1, f2, lt, _, _, _, _⟩ := HR.out.gr hg1
  simp only at c0 c1 c2 c3
  clear hg1
  cases st with
  | true =>
    obtain rfl : TB = false := HB.out
    have ev : Hid (TS = ⟨i, true⟩) := HS.out
    clear HB HS ht hj
    go_wp2
    go_ret
    exact ⟨rfl, by rw [ev.out]; exact HR1.out, (GB.ofGr HG1.out).alloc⟩
  | false =>
    by_cases hk : xk = k
    · have e0 : (xk != k) = false := by simpa using hk
      by_cases h2 : xt = t
      · obtain rfl : TB = true := by rw [HB.out, decide_eq_true hk, decide_eq_true h2]; rfl
        have ev : Hid (TS = ⟨j, false⟩) := HS.out
        rw [decide_eq_true h2] at ht
        have ht2 : (xt.toList != t.toList) = false := ht
        have ht3 : (xt.toList == t.toList) = true := by simpa using ht2
        clear HB HS hk h2 ht hj
        go_wp2
        go_ret
        refine ⟨rfl, ?_, ?_⟩
        · rw [ev.out]
          first | exact HR1.out.set1 j | exact ((HR.out.gr HG1.out).set1 j).gr (Gr.refl _).alloc
        · first | exact GB.setNew ((GB.ofGr HG1.out).alloc) ⟨b, _, none⟩ _ (Or.inr rfl) | exact GB.alloc (GB.setNew (GB.ofGr HG1.out) ⟨b, _, none⟩ _ (Or.inr rfl))
      · obtain rfl : TB = false := by rw [HB.out, decide_eq_false h2]; simp
        have ev : Hid (TS = ⟨i, false⟩) := HS.out
        rw [decide_eq_false h2] at ht
        have ht2 : (xt.toList != t.toList) = true := ht
        have ht3 : (xt.toList == t.toList) = false := by simpa using ht2
        clear HB HS hk h2 ht hj
        go_wp2
        go_ret
        exact ⟨rfl, by rw [ev.out]; exact HR1.out, (GB.ofGr HG1.out).alloc⟩
    · have e0 : (xk != k) = true := by simpa using hk
      obtain rfl : TB = false := by rw [HB.out, decide_eq_false hk]; rfl
      have ev : Hid (TS = ⟨i, false⟩) := HS.out
      clear HB HS hk hj ht
      go_wp2
      go_ret
      exact ⟨rfl, by rw [ev.out]; exact HR1.out, (GB.ofGr HG1.out).alloc⟩

set_option maxHeartbeats 2000000 in
set_option maxRecDepth 100000 in
theorem dMust_any (b m : Nat) (ad : Option Addr) (T : List Tok) (cap : Nat) (q : St) (k : Int) (t : ByteArray) (w : World) (h : Rd w b m ad T cap q) (hi : q.i < T.length) (hn : T.length ≤ 5000) :
    Calls Tryd.prog 54 #[.pointer (some ⟨b, 0, none⟩), .int .i64 k, .string t] w fun e w' => e = .returned (.tuple #[]) ∧ Rd w' b m ad T cap (mustS T q k t) ∧ GB b w w' := by
  have HP : Hid (Calls Tryd.prog 56 #[.pointer (some ⟨b, 0, none⟩), .int .i64 k, .string t] w fun e w' => e = .returned (.bool (passB T q k t)) ∧ Rd w' b m ad T cap (passS T q k t) ∧ GB b w w') := dPass_any b m ad T cap q k t w h hi hn
  have HS : Hid (mustS T q k t = if passB T q k t = true then ⟨q.i + 1, q.s⟩ else ⟨q.i, true⟩) := rfl
  have HS2 : Hid (passS T q k t = if passB T q k t = true then ⟨q.i + 1, q.s⟩ else q) := rfl
  generalize mustS T q k t = MS at *
  generalize passS T q k t = TS at *
  generalize passB T q k t = TB at *
  clear hi hn h
  cases TB with
  | true =>
    have ev : Hid (MS = TS) := HS.out.trans HS2.out.symm
    clear HS HS2
    go_enter Tryd.func54, Tryd.ntmps54
    go_wp2_with fail
    refine HP.out.mono ?_
    rintro e w1 ⟨rfl, hr, hg⟩
    have HR1 := Lib.hid hr
    have HG1 := Lib.hid hg
    clear hr hg
    go_wp2
    go_end0
    exact ⟨rfl, by rw [ev.out]; exact HR1.out, HG1.out⟩
  | false =>
    have ev : Hid (TS = q ∧ MS = ⟨q.i, true⟩) := ⟨HS2.out, HS.out⟩
    clear HS HS2
    go_enter Tryd.func54, Tryd.ntmps54
    go_wp2_with fail
    refine HP.out.mono ?_
    rintro e w1 ⟨rfl, hr, hg⟩
    rw [ev.out.1] at hr
    have HR1 := Lib.hid hr
    have HG1 := Lib.hid hg
    obtain ⟨c0, c1, c2, c3, f1, f2, lt, _, _, _, _⟩ := hr
    clear hg
    go_wp2
    go_end0
    exact ⟨rfl, by rw [ev.out.2]; exact HR1.out.set2 true, HG1.out.setNew _ _ (Or.inr rfl)⟩
end Go.Proofs.YtdliljijgokpjaaDoor
