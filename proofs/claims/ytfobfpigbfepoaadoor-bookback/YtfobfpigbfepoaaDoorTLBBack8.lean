/- What the proof is made of, part 8. -/
import Derived.Test.YtfobfpigbfepoaaDoorTLBBack7
import Derived.BigRegion
import Derived.Deep.RegionHeld3
import Derived.Deep.DeepCutAuto
namespace Go.Proofs.YtfobfpigbfepoaaDoor
open Go.RowKit
open Lex (Tok)
open Df (Stp St tk Gd isT passB passS mustS takeB takeV takeS)
theorem Rd.tok {w : World} {b m : Nat} {ad : Option Addr} {T : List Tok} {cap : Nat} {q : St} (h : Rd w b m ad T cap q) (hi : q.i < T.length) : ∃ tb off, ad = some ⟨tb, off, none⟩ ∧ tb < w.heap.size ∧ w.cell? ⟨tb, off + q.i * 3, none⟩ = some (.int .i64 (tk T q.i).k) ∧ w.cell? ⟨tb, off + q.i * 3 + 1, none⟩ = some (.string (tk T q.i).t) ∧ w.cell? ⟨tb, off + q.i * 3 + 2, none⟩ = some (.int .i64 (tk T q.i).p) := by
  rw [Df.tk_get T q.i hi]
  exact h.ts q.i hi
set_option maxHeartbeats 2000000 in
theorem dHere_any (b m : Nat) (ad : Option Addr) (T : List Tok) (cap : Nat) (q : St) (w : World) (h : Rd w b m ad T cap q) (hi : q.i < T.length) :
    Calls Tryd.prog 53 #[.pointer (some ⟨b, 0, none⟩)] w fun e w' => e = .returned (.agg #[.int .i64 (tk T q.i).k, .string (tk T q.i).t, .int .i64 (tk T q.i).p]) ∧ Gr w w' := by
  obtain ⟨tb, off, rfl, htb, t0, t1, t2⟩ := h.tok hi
  obtain ⟨c0, c1, c2, c3, f1, f2, lt, ts, na, mp, nm⟩ := h
  generalize tk T q.i = x at *
  obtain ⟨xk, xt, xp⟩ := x
  obtain ⟨i, s⟩ := q
  simp only at *
  clear ts na mp nm c2 c3 f1 f2
  go_enter Tryd.func53, Tryd.ntmps53
  go_wp2
  go_region
  go_wp2
  refine bodyPost_ret (v := .agg #[.int .i64 xk, .string xt, .int .i64 xp]) (by simp [results, Tryd.results53, go_sem]) rfl ⟨rfl, ?_⟩
  exact (by (repeat' (first | with_reducible exact Gr.refl _ | with_reducible refine Gr.set ?_ _ ?_ _ | with_reducible refine Gr.alloc ?_ | with_reducible refine Gr.drew ?_ | with_reducible refine Gr.trans ?_ (by assumption))) <;> (first | (simp; done) | (simp; omega) | omega))
set_option maxHeartbeats 4000000 in
set_option maxRecDepth 100000 in
theorem dTake_any (b m : Nat) (ad : Option Addr) (T : List Tok) (cap : Nat) (q : St) (k : Int) (w : World) (h : Rd w b m ad T cap q) (hT : Gd T) (hi : q.i < T.length) (hn : T.length ≤ 5000) :
    Calls Tryd.prog 71 #[.pointer (some ⟨b, 0, none⟩), .int .i64 k] w fun e w' => e = .returned (.string (takeV T q k)) ∧ Rd w' b m ad T cap (takeS T q k) ∧ GB b w w' := by
  have HH : Hid (∀ w', Rd w' b m ad T cap q → Calls Tryd.prog 53 #[.pointer (some ⟨b, 0, none⟩)] w' fun e w2 => e = .returned (.agg #[.int .i64 (tk T q.i).k, .string (tk T q.i).t, .int .i64 (tk T q.i).p]) ∧ Gr w' w2) := fun w' h' => dHere_any b m ad T cap q w' h' hi
  have HC : Hid (∀ w', Calls Tryd.prog 36 #[.string (tk T q.i).t] w' fun e w2 => e = .returned (.string (tk T q.i).t) ∧ Gr w' w2) := fun w' => clone_any _ w' (by have := hT.size q.i; omega)
  have HB : Hid (takeB T q k = (!q.s && decide ((tk T q.i).k = k))) := rfl
  have HV : Hid (takeV T q k = if takeB T q k = true then (tk T q.i).t else ⟨#[]⟩) := rfl
  have HS : Hid (takeS T q k = if takeB T q k = true then ⟨q.i + 1, q.s⟩ else ⟨q.i, true⟩) := rfl
  have HR : Hid (Rd w b m ad T cap q) := h
  obtain ⟨i, st⟩ := q
  simp only at *
  generalize takeV T ⟨i, st⟩ k = TV at *
  generalize takeS T ⟨i, st⟩ k = TS at *
  generalize takeB T ⟨i, st⟩ k = TB at *
  generalize tk T i = x at *
  obtain ⟨xk, xt, xp⟩ := x
  simp only at *
  have e2 : wrap64 ((i : Int) + 1) = ((i + 1 : Nat) : Int) := by unfold wrap64; omega
  obtain ⟨j, hj⟩ : ∃ j, j = i + 1 := ⟨_, rfl⟩
  rw [← hj] at e2 HS
  clear hT hi hn h
  go_enter Tryd.func71, Tryd.ntmps71
  go_wp2_with fail
  refine (HH.out _ HR.out).mono ?_
  rintro e w1 ⟨rfl, hg1⟩
  have HG1 : Hid (Gr w w1) := hg1
  have HR1 : Hid (Rd (w1.alloc (.cells #[.int .i64 xk, .string xt, .int .i64 xp] 81)) b m ad T cap ⟨i, st⟩) := (HR.out.gr hg1).gr (Gr.refl _).alloc
  obtain ⟨c0, c1, c2, c3, f1, f2, lt, _, _, _, _⟩ := HR.out.gr hg1
  simp only at c0 c1 c2 c3
  clear hg1
  cases st with
  | true =>
    obtain rfl : TB = false := HB.out
    have ev : Hid (TV = ⟨#[]⟩ ∧ TS = ⟨i, true⟩) := ⟨HV.out, HS.out⟩
    clear HB HV HS
    go_wp2
    go_ret
    refine ⟨by rw [ev.out.1]; rfl, ?_, ?_⟩
    · rw [ev.out.2]
      first | exact HR1.out.set2 true | exact ((HR.out.gr HG1.out).set2 true).gr (Gr.refl _).alloc
    · first | exact GB.setNew ((GB.ofGr HG1.out).alloc) ⟨b, _, none⟩ _ (Or.inr rfl) | exact GB.alloc (GB.setNew (GB.ofGr HG1.out) ⟨b, _, none⟩ _ (Or.inr rfl))
  | false =>
    by_cases hk : xk = k
    · have e0 : (xk != k) = false := by simpa using hk
      obtain rfl : TB = true := by rw [HB.out, decide_eq_true hk]; rfl
      have ev : Hid (TV = xt ∧ TS = ⟨j, false⟩) := ⟨HV.out, HS.out⟩
      clear HB HV HS hk hj
      go_wp2_with fail
      refine (HC.out _).mono ?_
      rintro e w2 ⟨rfl, hg2⟩
      have HG2 := Lib.hid hg2
      clear hg2
      go_wp2
      go_ret
      refine ⟨by rw [ev.out.1]; rfl, ?_, ?_⟩
      · rw [ev.out.2]
        refine Rd.gr ?_ HG2.out
        first | exact HR1.out.set1 j | exact ((HR.out.gr HG1.out).set1 j).gr (Gr.refl _).alloc
      · refine GB.gr ?_ HG2.out
        first | exact GB.setNew ((GB.ofGr HG1.out).alloc) ⟨b, _, none⟩ _ (Or.inr rfl) | exact GB.alloc (GB.setNew (GB.ofGr HG1.out) ⟨b, _, none⟩ _ (Or.inr rfl))
    · have e0 : (xk != k) = true := by simpa using hk
      obtain rfl : TB = false := by rw [HB.out, decide_eq_false hk]; rfl
      have ev : Hid (TV = ⟨#[]⟩ ∧ TS = ⟨i, true⟩) := ⟨HV.out, HS.out⟩
      clear HB HV HS hk hj
      go_wp2
      go_ret
      refine ⟨by rw [ev.out.1]; rfl, ?_, ?_⟩
      · rw [ev.out.2]
        first | exact HR1.out.set2 true | exact ((HR.out.gr HG1.out).set2 true).gr (Gr.refl _).alloc
      · first | exact GB.setNew ((GB.ofGr HG1.out).alloc) ⟨b, _, none⟩ _ (Or.inr rfl) | exact GB.alloc (GB.setNew (GB.ofGr HG1.out) ⟨b, _, none⟩ _ (Or.inr rfl))
set_option maxHeartbeats 4000000 in
set_option maxRecDepth 100000 in
theorem dPass_any (b m : Nat) (ad : Option Addr) (T : List Tok) (cap : Nat) (q : St) (k : Int) (t : ByteArray) (w : World) (h : Rd w b m ad T cap q) (hi : q.i < T.length) (hn : T.length ≤ 5000) :
    Calls Tryd.prog 72 #[.pointer (some ⟨b, 0, none⟩), .int .i64 k, .string t] w fun e w' => e = .returned (.bool (passB T q k t)) ∧ Rd w' b m ad T cap (passS T q k t) ∧ GB b w w' := by
  have HH : Hid (∀ w', Rd w' b m ad T cap q → Calls Tryd.prog 53 #[.pointer (some ⟨b, 0, none⟩)] w' fun e w2 => e = .returned (.agg #[.int .i64 (tk T q.i).k, .string (tk T q.i).t, .int .i64 (tk T q.i).p]) ∧ Gr w' w2) := fun w' h' => dHere_any b m ad T cap q w' h' hi
  have HB : Hid (passB T q k t = (!q.s && (decide ((tk T q.i).k = k) && decide ((tk T q.i).t = t)))) := rfl
  have HS : Hid (passS T q k t = if passB T q k t = true then ⟨q.i + 1, q.s⟩ else q) := rfl
  have HR : Hid (Rd w b m ad T cap q) := h
  obtain ⟨i, st⟩ := q
  simp only at *
  generalize passS T ⟨i, st⟩ k t = TS at *
  generalize passB T ⟨i, st⟩ k t = TB at *
  generalize tk T i = x at *
  obtain ⟨xk, xt, xp⟩ := x
  simp only at *
  have e2 : wrap64 ((i : Int) + 1) = ((i + 1 : Nat) : Int) := by unfold wrap64; omega
  obtain ⟨j, hj⟩ : ∃ j, j = i + 1 := ⟨_, rfl⟩
  rw [← hj] at e2 HS
  have ht := text_ne xt t.data.toList
  rw [Lex.bytes_list, ← show t.toList = t.data.toList from ByteArray.toList_eq t] at ht
  clear hi hn h
  go_enter Tryd.func72, Tryd.ntmps72
  go_wp2_with fail
  refine (HH.out _ HR.out).mono ?_
  rintro e w1 ⟨rfl, hg1⟩
  have HG1 : Hid (Gr w w1) := hg1
  have HR1 : Hid (Rd (w1.alloc (.cells #[.int .i64 xk, .string xt, .int .i64 xp] 81)) b m ad T cap ⟨i, st⟩) := (HR.out.gr hg1).gr (Gr.refl _).alloc
  obtain ⟨c0, c1, c2, c3, f1, f2, lt, _, _, _, _⟩ := HR.out.gr hg1
  simp only at c0 c1 c2 c3
  clear hg1
  cases st with
  | true =>
    obtain rfl : TB = false := HB.out
    have ev : Hid (TS = ⟨i, true⟩) := HS.out
    clear HB HS ht hj
    go_wp2
    go_ret
    exact ⟨rfl, by rw [ev.out]; exact HR1.out, (GB.ofGr HG1.out).alloc⟩
  | false =>
    by_cases hk : xk = k
    · have e0 : (xk != k) = false := by simpa using hk
      by_cases h2 : xt = t
      · obtain rfl : TB = true := by rw [HB.out, decide_eq_true hk, decide_eq_true h2]; rfl
        have ev : Hid (TS = ⟨j, false⟩) := HS.out
        rw [decide_eq_true h2] at ht
        have ht2 : (xt.toList != t.toList) = false := ht
        have ht3 : (xt.toList == t.toList) = true := by simpa using ht2
        clear HB HS hk h2 ht hj
        go_wp2
        go_ret
        refine ⟨rfl, ?_, ?_⟩
        · rw [ev.out]
          first | exact HR1.out.set1 j | exact ((HR.out.gr HG1.out).set1 j).gr (Gr.refl _).alloc
        · first | exact GB.setNew ((GB.ofGr HG1.out).alloc) ⟨b, _, none⟩ _ (Or.inr rfl) | exact GB.alloc (GB.setNew (GB.ofGr HG1.out) ⟨b, _, none⟩ _ (Or.inr rfl))
      · obtain rfl : TB = false := by rw [HB.out, decide_eq_false h2]; simp
        have ev : Hid (TS = ⟨i, false⟩) := HS.out
        rw [decide_eq_false h2] at ht
        have ht2 : (xt.toList != t.toList) = true := ht
        have ht3 : (xt.toList == t.toList) = false := by simpa using ht2
        clear HB HS hk h2 ht hj
        go_wp2
        go_ret
        exact ⟨rfl, by rw [ev.out]; exact HR1.out, (GB.ofGr HG1.out).alloc⟩
    · have e0 : (xk != k) = true := by simpa using hk
      obtain rfl : TB = false := by rw [HB.out, decide_eq_false hk]; rfl
      have ev : Hid (TS = ⟨i, false⟩) := HS.out
      clear HB HS hk hj ht
      go_wp2
      go_ret
      exact ⟨rfl, by rw [ev.out]; exact HR1.out, (GB.ofGr HG1.out).alloc⟩
set_option maxHeartbeats 2000000 in
set_option maxRecDepth 100000 in
theorem dMust_any (b m : Nat) (ad : Option Addr) (T : List Tok) (cap : Nat) (q : St) (k : Int) (t : ByteArray) (w : World) (h : Rd w b m ad T cap q) (hi : q.i < T.length) (hn : T.length ≤ 5000) :
    Calls Tryd.prog 70 #[.pointer (some ⟨b, 0, none⟩), .int .i64 k, .string t] w fun e w' => e = .returned (.tuple #[]) ∧ Rd w' b m ad T cap (mustS T q k t) ∧ GB b w w' := by
  have HP : Hid (Calls Tryd.prog 72 #[.pointer (some ⟨b, 0, none⟩), .int .i64 k, .string t] w fun e w' => e = .returned (.bool (passB T q k t)) ∧ Rd w' b m ad T cap (passS T q k t) ∧ GB b w w') := dPass_any b m ad T cap q k t w h hi hn
  have HS : Hid (mustS T q k t = if passB T q k t = true then ⟨q.i + 1, q.s⟩ else ⟨q.i, true⟩) := rfl
  have HS2 : Hid (passS T q k t = if passB T q k t = true then ⟨q.i + 1, q.s⟩ else q) := rfl
  generalize mustS T q k t = MS at *
  generalize passS T q k t = TS at *
  generalize passB T q k t = TB at *
  clear hi hn h
  cases TB with
  | true =>
    have ev : Hid (MS = TS) := HS.out.trans HS2.out.symm
    clear HS HS2
    go_enter Tryd.func70, Tryd.ntmps70
    go_wp2_with fail
    refine HP.out.mono ?_
    rintro e w1 ⟨rfl, hr, hg⟩
    have HR1 := Lib.hid hr
    have HG1 := Lib.hid hg
    clear hr hg
    go_wp2
    go_end0
    exact ⟨rfl, by rw [ev.out]; exact HR1.out, HG1.out⟩
  | false =>
    have ev : Hid (TS = q ∧ MS = ⟨q.i, true⟩) := ⟨HS2.out, HS.out⟩
    clear HS HS2
    go_enter Tryd.func70, Tryd.ntmps70
    go_wp2_with fail
    refine HP.out.mono ?_
    rintro e w1 ⟨rfl, hr, hg⟩
    rw [ev.out.1] at hr
    have HR1 := Lib.hid hr
    have HG1 := Lib.hid hg
    obtain ⟨c0, c1, c2, c3, f1, f2, lt, _, _, _, _⟩ := hr
    clear hg
    go_wp2
    go_end0
    exact ⟨rfl, by rw [ev.out.2]; exact HR1.out.set2 true, HG1.out.setNew _ _ (Or.inr rfl)⟩
end Go.Proofs.YtfobfpigbfepoaaDoor
namespace Go.Proofs.YtfobfpigbfepoaaDoor
open Go.RowKit
open _root_.Go.Proofs.YtfobfpigbfepoaaDoor.Act (letB digB sgnB nameB)
open Lex (Tok numB sigB vl valE valB)
set_option maxHeartbeats 4000000 in
set_option maxRecDepth 100000 in
theorem value_any (k : Int) (s : ByteArray) (p : Int) (w : World) (hs : s.size ≤ 9223372036854775807) : Calls Tryd.prog 93 #[.agg #[.int .i64 k, .string s, .int .i64 p]] w fun e w' => e = .returned (.tuple #[.int .i64 (valE k s), .bool (valB k s)]) ∧ Gr w w' := by
  by_cases h2 : k = 2
  · subst h2
    have HN : Hid (∀ w : World, Calls Tryd.prog 69 #[.string s] w fun e w' => e = .returned (.bool (numB s)) ∧ Gr w w') := fun w => isNumber_any s w hs
    cases hnb : numB s with
    | false =>
      have E1 : valE 2 s = 0 := by unfold Lex.valE; rw [if_neg]; rw [hnb]; simp
      have E2 : valB 2 s = false := by unfold Lex.valB; rw [hnb]; rfl
      rw [E1, E2]
      rw [hnb] at HN
      go_enter Tryd.func93, Tryd.ntmps93
      go_wp2_with fail
      refine (HN.out _).mono ?_
      rintro e w1 ⟨rfl, hg1⟩
      go_wp2
      go_ret2
      exact ⟨rfl, (by repeat (first | exact Gr.refl _ | refine Gr.alloc ?_ | refine Gr.drew ?_ | refine Gr.trans ?_ (by assumption)))⟩
    | true =>
      have E1 : valE 2 s = vl s.data.toList 0 := by unfold Lex.valE; rw [if_pos ⟨rfl, hnb⟩]
      have E2 : valB 2 s = true := by unfold Lex.valB; rw [hnb]; rfl
      obtain ⟨p1, p16, pd⟩ := Lex.num_parts hnb
      rw [E2, E1]
      rw [hnb] at HN
      have hl : s.data.toList.length = s.size := by simp
      have HV : Hid (∀ j (hj : j < s.size), vl (s.data.toList.take (j + 1)) 0 = vl (s.data.toList.take j) 0 * 10 + (((s[j]'hj).toNat : Int) - 48)) := fun j hj => Lex.vl_take s.data.toList j (by omega)
      have HR : Hid (∀ j, 0 ≤ vl (s.data.toList.take j) 0 ∧ vl (s.data.toList.take j) 0 < 10000000000000000) := fun j => Lex.vl_rng _ (by rw [List.length_take]; omega) (fun b hb => by
        obtain ⟨i, hi, rfl⟩ := List.getElem_of_mem (List.mem_of_mem_take hb)
        exact pd i (by omega))
      have HD : Hid (∀ j (hj : j < s.size), (48 : Int) ≤ ((s[j]'hj).toNat : Int) ∧ ((s[j]'hj).toNat : Int) ≤ 57) := fun j hj => by
        have := pd j hj
        unfold Act.digB at this; simpa only [Bool.and_eq_true, decide_eq_true_eq] using this
      have HL : Hid (s.data.toList.take s.size = s.data.toList) := by show _ = _; rw [← hl, List.take_length]
      clear hnb E1 E2 pd hl
      generalize s.data.toList = L at *
      go_enter Tryd.func93, Tryd.ntmps93
      go_wp2_with fail
      refine (HN.out _).mono ?_
      rintro e w1 ⟨rfl, hg1⟩
      have hx1 := (BoxAt.new w (.int .i64 2) (.string s) (.int .i64 p) 81 _ rfl).gr hg1
      have HG1 : Hid (Gr w w1) := (Gr.refl _).alloc.trans hg1
      obtain ⟨x0, x1, x2, _, _, _, xl⟩ := hx1
      clear hg1
      go_wp2
      go_loop [4, 18] (fun n i => ∃ j : Nat, j ≤ s.size ∧ i = .int .i64 (j : Int) ∧ n = .int .i64 (vl (L.take j) 0)) (fun _ i => s.size - (intOf i).toNat)
      case atStart => exact ⟨0, by omega, rfl, rfl⟩
      case round =>
        obtain ⟨j, hj, rfl, rfl⟩ := hrel
        by_cases hlt : j < s.size
        · have hv := HV.out j hlt
          obtain ⟨r0, r1⟩ := HR.out j
          obtain ⟨d0, d1⟩ := HD.out j hlt
          have w1' : wrap64 (vl (L.take j) 0 * 10) = vl (L.take j) 0 * 10 := by unfold wrap64; omega
          have w2' : IntKind.u8.wrap (((s[j]'hlt).toNat : Int) - 48) = ((s[j]'hlt).toNat : Int) - 48 := by rw [IntKind.wrap_u8]; omega
          have w3' : wrap64 (((s[j]'hlt).toNat : Int) - 48) = ((s[j]'hlt).toNat : Int) - 48 := by unfold wrap64; omega
          have w4' : wrap64 (vl (L.take j) 0 * 10 + (((s[j]'hlt).toNat : Int) - 48)) = vl (L.take (j + 1)) 0 := by rw [hv]; unfold wrap64; omega
          have HV2 : Hid (vl (L.take j) 0 * 10 + (((s[j]'hlt).toNat : Int) - 48) = vl (L.take (j + 1)) 0) := hv.symm
          clear hv
          go_wp2
          go_round
          case rel => exact ⟨j + 1, by omega, by go_num, by rw [← HV2.out]⟩
          case measure => simp [intOf]; omega
        · obtain rfl : j = s.size := by omega
          rw [HL.out]
          go_wp2
          go_ret2
          exact ⟨rfl, HG1.out⟩
  · have E1 : valE k s = 0 := by unfold Lex.valE; rw [if_neg (fun h => h2 h.1)]
    have E2 : valB k s = false := by unfold Lex.valB; rw [decide_eq_false h2]; rfl
    rw [E1, E2]
    have e2 : (k != 2) = true := by simpa using h2
    clear h2
    go_enter Tryd.func93, Tryd.ntmps93
    go_wp2
    go_ret2
    exact ⟨rfl, (by repeat (first | exact Gr.refl _ | refine Gr.alloc ?_ | refine Gr.drew ?_ | refine Gr.trans ?_ (by assumption)))⟩
end Go.Proofs.YtfobfpigbfepoaaDoor
namespace Go.Proofs.YtfobfpigbfepoaaDoor
variable {P : Program} {md : Region.Mode} {ops : Array Oper} {Q : Exit → Act → World → Prop} {S : World → Prop}
theorem take_yes (i d : Nat) {oi : Oper} {v : Value} {fuel : Nat} {listed : Array Bool} {a : Act} {w : World} (hi : ops[i]? = some oi) (hd : oi.dst = some d)
    (hs : Region.noSelect ops = true) (hf : Region.free md ops listed i = true) (hr : (Region.ready md ops listed).contains i = true)
    (hQ : ∀ c a w, Q (.panic c) (a.put (some d) v) w → Q (.panic c) a w) (hw : Region.wanted oi (yielded ops a.tmps) = true) (hy : ∀ w, S w → (execOp a.eval oi).run P w = .ok (.value v) w) (hS : S w)
    (h : wpAnyH P md ops Q S fuel (listed.setIfInBounds i true) (a.put (some d) v) w) : wpAnyH P md ops Q S (fuel + 1) listed a w := by
  rw [← hd] at hQ h
  exact wpAnyH_take hi hs hf hr hQ (Or.inl ⟨hw, hy⟩) hS h
theorem take_not (i d : Nat) {oi : Oper} {fuel : Nat} {listed : Array Bool} {a : Act} {w : World} (hi : ops[i]? = some oi) (hd : oi.dst = some d)
    (hs : Region.noSelect ops = true) (hf : Region.free md ops listed i = true) (hr : (Region.ready md ops listed).contains i = true)
    (hQ : ∀ c a w, Q (.panic c) (a.put (some d) undef) w → Q (.panic c) a w) (hw : Region.wanted oi (yielded ops a.tmps) = false) (hS : S w)
    (h : wpAnyH P md ops Q S fuel (listed.setIfInBounds i true) (a.put (some d) undef) w) : wpAnyH P md ops Q S (fuel + 1) listed a w := by
  rw [← hd] at hQ h
  exact wpAnyH_take hi hs hf hr hQ (Or.inr ⟨hw, rfl⟩) hS h
theorem ty (i d : Nat) {oi : Oper} {v : Value} {fuel : Nat} {listed : Array Bool} {a a' : Act} {w : World} (hS : S w) (h : wpAnyH P md ops Q S fuel (listed.setIfInBounds i true) a' w)
    (hi : ops[i]? = some oi := by rfl) (hd : oi.dst = some d := by rfl) (hs : Region.noSelect ops = true := by kernel_rfl) (hf : Region.free md ops listed i = true := by kernel_rfl) (hr : (Region.ready md ops listed).contains i = true := by kernel_rfl)
    (hQ : ∀ c a w, Q (.panic c) (a.put (some d) v) w → Q (.panic c) a w := by exact fun _ _ _ h => h) (hw : Region.wanted oi (yielded ops a.tmps) = true := by rfl)
    (hy : ∀ w, S w → (execOp a.eval oi).run P w = .ok (.value v) w := by (intro w hSw; (try dsimp only at hSw); go_simp; try with_reducible rfl))
    (ha : a.put (some d) v = a' := by (simp only [Act.put, List.setIfInBounds_toArray, List.set_cons_zero, List.set_cons_succ]; rfl)) : wpAnyH P md ops Q S (fuel + 1) listed a w := by
  subst ha
  exact take_yes i d hi hd hs hf hr hQ hw hy hS h
end Go.Proofs.YtfobfpigbfepoaaDoor
namespace Go.Proofs.YtfobfpigbfepoaaDoor
open Go.RowKit Go.Maps
open Lex (Tok valE valB)
open Df (Stp St tk Gd isT passB passS mustS takeB takeV takeS numV cntV optV optS kndV kndS kw)
theorem take_lt {T : List Tok} (hT : Gd T) {q : St} (k : Int) (h0 : k ≠ 0) (h : q.i < T.length) : (takeS T q k).i < T.length := by
  unfold Df.takeS
  by_cases hb : takeB T q k = true
  · rw [if_pos hb]
    unfold Df.takeB at hb
    simp only [Bool.and_eq_true, decide_eq_true_eq] at hb
    exact hT.next (by rw [hb.2]; exact h0)
  · rw [if_neg hb]; exact h
theorem pass_lt {T : List Tok} (hT : Gd T) {q : St} (k : Int) (s : ByteArray) (h0 : k ≠ 0) (h : q.i < T.length) : (passS T q k s).i < T.length := by
  unfold Df.passS
  by_cases hb : passB T q k s = true
  · rw [if_pos hb]
    unfold Df.passB at hb
    simp only [Bool.and_eq_true] at hb
    exact hT.next (by rw [((Df.isT_iff _ _ _).1 hb.2).1]; exact h0)
  · rw [if_neg hb]; exact h
theorem must_lt {T : List Tok} (hT : Gd T) {q : St} (k : Int) (s : ByteArray) (h0 : k ≠ 0) (h : q.i < T.length) : (mustS T q k s).i < T.length := by
  unfold Df.mustS
  by_cases hb : passB T q k s = true
  · rw [if_pos hb]
    unfold Df.passB at hb
    simp only [Bool.and_eq_true] at hb
    exact hT.next (by rw [((Df.isT_iff _ _ _).1 hb.2).1]; exact h0)
  · rw [if_neg hb]; exact h
theorem opt_lt {T : List Tok} (hT : Gd T) {q : St} (wd : ByteArray) (h : q.i < T.length) : (optS T q wd).i < T.length := by
  unfold Df.optS
  by_cases hb : passB T q 1 wd = true
  · rw [if_pos hb]; exact take_lt hT 2 (by decide) (pass_lt hT 1 wd (by decide) h)
  · rw [if_neg hb]; exact h
theorem knd_lt {T : List Tok} (hT : Gd T) {q : St} (h : q.i < T.length) : (kndS T q).i < T.length := by
  unfold Df.kndS
  refine take_lt hT 1 (by decide) ?_
  split
  · exact h
  · exact h
theorem takeV_size {T : List Tok} (hT : Gd T) (q : St) (k : Int) : (takeV T q k).size ≤ 16 := by
  unfold Df.takeV
  split
  · exact hT.size q.i
  · decide
set_option maxHeartbeats 2000000 in
set_option maxRecDepth 100000 in
theorem dNumber_any (b m : Nat) (ad : Option Addr) (T : List Tok) (cap : Nat) (q : St) (w : World) (h : Rd w b m ad T cap q) (hT : Gd T) (hi : q.i < T.length) (hn : T.length ≤ 5000) :
    Calls Tryd.prog 86 #[.pointer (some ⟨b, 0, none⟩)] w fun e w' => e = .returned (.int .i64 (numV T q)) ∧ Rd w' b m ad T cap (takeS T q 2) ∧ GB b w w' := by
  have H1 : Hid (Calls Tryd.prog 71 #[.pointer (some ⟨b, 0, none⟩), .int .i64 2] w fun e w' => e = .returned (.string (takeV T q 2)) ∧ Rd w' b m ad T cap (takeS T q 2) ∧ GB b w w') := dTake_any b m ad T cap q 2 w h hT hi hn
  have H2 : Hid (∀ w', Calls Tryd.prog 93 #[.agg #[.int .i64 2, .string (takeV T q 2), .int .i64 0]] w' fun e w2 => e = .returned (.tuple #[.int .i64 (valE 2 (takeV T q 2)), .bool (valB 2 (takeV T q 2))]) ∧ Gr w' w2) := fun w' => value_any 2 (takeV T q 2) 0 w' (by have := takeV_size hT q 2; omega)
  have HN : Hid (numV T q = valE 2 (takeV T q 2)) := rfl
  generalize numV T q = NV at *
  generalize takeV T q 2 = TV at *
  generalize takeS T q 2 = TS at *
  clear hi hn hT h
  go_enter Tryd.func86, Tryd.ntmps86
  go_wp2_with fail
  refine H1.out.mono ?_
  rintro e w1 ⟨rfl, hr, hg⟩
  have HR1 := Lib.hid hr
  have HG1 := Lib.hid hg
  clear hr hg
  go_wp2_with fail
  refine (H2.out _).mono ?_
  rintro e w2 ⟨rfl, hg⟩
  have HG2 := Lib.hid hg
  clear hg
  go_wp2
  go_ret
  exact ⟨by rw [HN.out]; rfl, HR1.out.gr HG2.out, HG1.out.gr HG2.out⟩
theorem tok_text (k p : Int) (t : ByteArray) (W : World) : (Instr.field 81 (.agg #[.int .i64 k, .string t, .int .i64 p]) 1).run Tryd.prog W = .ok (.string t) W := by kernel_rfl
set_option maxHeartbeats 2000000 in
set_option maxRecDepth 100000 in
theorem dCount_any (b m : Nat) (ad : Option Addr) (T : List Tok) (cap : Nat) (q : St) (w : World) (h : Rd w b m ad T cap q) (hT : Gd T) (hi : q.i < T.length) (hn : T.length ≤ 5000) :
    Calls Tryd.prog 83 #[.pointer (some ⟨b, 0, none⟩)] w fun e w' => e = .returned (.int .i64 (cntV T q)) ∧ Rd w' b m ad T cap (takeS T q 2) ∧ GB b w w' := by
  have H1 : Hid (Calls Tryd.prog 53 #[.pointer (some ⟨b, 0, none⟩)] w fun e w2 => e = .returned (.agg #[.int .i64 (tk T q.i).k, .string (tk T q.i).t, .int .i64 (tk T q.i).p]) ∧ Gr w w2) := dHere_any b m ad T cap q w h hi
  have H2 : Hid (∀ w', Gr w w' → Calls Tryd.prog 86 #[.pointer (some ⟨b, 0, none⟩)] w' fun e w2 => e = .returned (.int .i64 (numV T q)) ∧ Rd w2 b m ad T cap (takeS T q 2) ∧ GB b w' w2) := fun w' g => dNumber_any b m ad T cap q w' (h.gr g) hT hi hn
  have HN : Hid (cntV T q = if 9 < (tk T q.i).t.size then -1 else numV T q) := rfl
  have hsz := hT.size q.i
  generalize cntV T q = CV at *
  generalize numV T q = NV at *
  generalize takeS T q 2 = TS at *
  generalize tk T q.i = x at *
  obtain ⟨xk, xt, xp⟩ := x
  simp only at *
  have hft := tok_text xk xp xt
  clear hi hn hT h
  by_cases h9 : 9 < xt.size
  · have h9i : (9 : Int) < (xt.size : Int) := by omega
    rw [if_pos h9] at HN
    go_enter Tryd.func83, Tryd.ntmps83
    go_wp2_with fail
    refine H1.out.mono ?_
    rintro e w1 ⟨rfl, hg⟩
    have HG1 := Lib.hid hg
    clear hg
    go_wp2_with fail
    refine (H2.out _ HG1.out).mono ?_
    rintro e w2 ⟨rfl, hr, hg⟩
    have HR2 := Lib.hid hr
    have HG2 := Lib.hid hg
    clear hr hg
    go_wp2
    go_ret
    exact ⟨by rw [HN.out]; rfl, HR2.out, (GB.ofGr HG1.out).trans HG2.out⟩
  · have h9i : ¬ (9 : Int) < (xt.size : Int) := by omega
    rw [if_neg h9] at HN
    go_enter Tryd.func83, Tryd.ntmps83
    go_wp2_with fail
    refine H1.out.mono ?_
    rintro e w1 ⟨rfl, hg⟩
    have HG1 := Lib.hid hg
    clear hg
    go_wp2_with fail
    refine (H2.out _ HG1.out).mono ?_
    rintro e w2 ⟨rfl, hr, hg⟩
    have HR2 := Lib.hid hr
    have HG2 := Lib.hid hg
    clear hr hg
    go_wp2
    go_ret
    exact ⟨by rw [HN.out]; rfl, HR2.out, (GB.ofGr HG1.out).trans HG2.out⟩
set_option maxHeartbeats 2000000 in
set_option maxRecDepth 100000 in
theorem dOption_any (b m : Nat) (ad : Option Addr) (T : List Tok) (cap : Nat) (q : St) (wd : ByteArray) (n : Int) (w : World) (h : Rd w b m ad T cap q) (hT : Gd T) (hi : q.i < T.length) (hn : T.length ≤ 5000) :
    Calls Tryd.prog 84 #[.pointer (some ⟨b, 0, none⟩), .string wd, .int .i64 n] w fun e w' => e = .returned (.int .i64 (optV T q wd n)) ∧ Rd w' b m ad T cap (optS T q wd) ∧ GB b w w' := by
  have H1 : Hid (Calls Tryd.prog 72 #[.pointer (some ⟨b, 0, none⟩), .int .i64 1, .string wd] w fun e w' => e = .returned (.bool (passB T q 1 wd)) ∧ Rd w' b m ad T cap (passS T q 1 wd) ∧ GB b w w') := dPass_any b m ad T cap q 1 wd w h hi hn
  have H2 : Hid (∀ w', Rd w' b m ad T cap (passS T q 1 wd) → Calls Tryd.prog 83 #[.pointer (some ⟨b, 0, none⟩)] w' fun e w2 => e = .returned (.int .i64 (cntV T (passS T q 1 wd))) ∧ Rd w2 b m ad T cap (takeS T (passS T q 1 wd) 2) ∧ GB b w' w2) := fun w' g => dCount_any b m ad T cap _ w' g hT (pass_lt hT 1 wd (by decide) hi) hn
  have HV : Hid (optV T q wd n = if passB T q 1 wd = true then cntV T (passS T q 1 wd) else n) := rfl
  have HS : Hid (optS T q wd = if passB T q 1 wd = true then takeS T (passS T q 1 wd) 2 else q) := rfl
  have HS2 : Hid (passS T q 1 wd = if passB T q 1 wd = true then ⟨q.i + 1, q.s⟩ else q) := rfl
  generalize optV T q wd n = OV at *
  generalize optS T q wd = OS at *
  generalize cntV T (passS T q 1 wd) = CV at *
  generalize takeS T (passS T q 1 wd) 2 = TS at *
  generalize passS T q 1 wd = PS at *
  generalize passB T q 1 wd = PB at *
  clear hi hn hT h
  cases PB with
  | true =>
    rw [if_pos rfl] at HV HS
    go_enter Tryd.func84, Tryd.ntmps84
    go_wp2_with fail
    refine H1.out.mono ?_
    rintro e w1 ⟨rfl, hr, hg⟩
    have HR1 := Lib.hid hr
    have HG1 := Lib.hid hg
    clear hr hg
    go_wp2_with fail
    refine (H2.out _ HR1.out).mono ?_
    rintro e w2 ⟨rfl, hr, hg⟩
    have HR2 := Lib.hid hr
    have HG2 := Lib.hid hg
    clear hr hg
    go_wp2
    go_ret
    exact ⟨by rw [HV.out]; rfl, by rw [HS.out]; exact HR2.out, HG1.out.trans HG2.out⟩
  | false =>
    rw [if_neg (by decide)] at HV HS HS2
    go_enter Tryd.func84, Tryd.ntmps84
    go_wp2_with fail
    refine H1.out.mono ?_
    rintro e w1 ⟨rfl, hr, hg⟩
    have HR1 := Lib.hid hr
    have HG1 := Lib.hid hg
    clear hr hg
    go_wp2
    go_ret
    exact ⟨by rw [HV.out]; rfl, by rw [HS.out, ← HS2.out]; exact HR1.out, HG1.out⟩
theorem lit_inj {a b : Int} {ps qs : List MemPlace} (h : ((DataW.lit (.int .i64 a) : DataW Unit), ps) = (.lit (.int .i64 b), qs)) : a = b := by cases h; rfl
theorem look_any {w : World} {m : Nat} (h : MapK w m) (t : ByteArray) (ht : t.size ≤ 9223372036854775807) : (Instr.lookup 108 (.map (some m)) (.string t) true).run Tryd.prog w = .ok (.tuple #[.int .i64 (kw t), .bool (decide (kw t ≠ 0))]) w := by
  obtain ⟨v, ps, hrun, hv⟩ := World.ownsMap.look_ok h strLaw Tryd.underlying108 (zeroInt w) (plainElem_int Tryd.underlying3 (by decide)) (key_any t ht)
  obtain ⟨c, rfl, hc, _⟩ := plainElem_int_inv Tryd.underlying3 hv
  rw [kD_at] at hc
  rw [hrun, kD_has]
  have : kw t = c := by
    by_cases h0 : kw t = 0
    · rw [if_pos h0] at hc
      rw [h0]; exact lit_inj hc
    · rw [if_neg h0] at hc
      exact lit_inj hc
  rw [this]
theorem holdK {w w' : World} {b m : Nat} {ad : Option Addr} {T : List Tok} {cap : Nat} {q : St} (h : Rd w b m ad T cap q) (t : ByteArray) (ht : t.size ≤ 16) (g : Gr w w') :
    Gr w w' ∧ w'.cell? ⟨b, 3, none⟩ = some (.map (some m)) ∧ (Instr.lookup 108 (.map (some m)) (.string t) true).run Tryd.prog w' = .ok (.tuple #[.int .i64 (kw t), .bool (decide (kw t ≠ 0))]) w' :=
  ⟨g, g.keep h.c3, look_any (h.mp.gr g) t (by omega)⟩
set_option maxHeartbeats 4000000 in
set_option maxRecDepth 100000 in
theorem dKind_any (b m : Nat) (ad : Option Addr) (T : List Tok) (cap : Nat) (q : St) (w : World) (h : Rd w b m ad T cap q) (hT : Gd T) (hi : q.i < T.length) (hn : T.length ≤ 5000) :
    Calls Tryd.prog 85 #[.pointer (some ⟨b, 0, none⟩)] w fun e w' => e = .returned (.int .i64 (kndV T q)) ∧ Rd w' b m ad T cap (kndS T q) ∧ GB b w w' := by
  have H1 : Hid (∀ w', Gr w w' → Calls Tryd.prog 53 #[.pointer (some ⟨b, 0, none⟩)] w' fun e w2 => e = .returned (.agg #[.int .i64 (tk T q.i).k, .string (tk T q.i).t, .int .i64 (tk T q.i).p]) ∧ Gr w' w2) := fun w' g => dHere_any b m ad T cap q w' (h.gr g) hi
  have H2 : Hid (∀ w', Rd w' b m ad T cap (if kw (tk T q.i).t = 0 then ⟨q.i, true⟩ else q) → Calls Tryd.prog 71 #[.pointer (some ⟨b, 0, none⟩), .int .i64 1] w' fun e w2 => (∃ s, e = .returned (.string s)) ∧ Rd w2 b m ad T cap (kndS T q) ∧ GB b w' w2) := by
    intro w' g
    refine (dTake_any b m ad T cap _ 1 w' g hT (by split <;> exact hi) hn).mono ?_
    rintro e w2 ⟨rfl, hr, hg⟩
    exact ⟨⟨_, rfl⟩, hr, hg⟩
  have HV : Hid (kndV T q = kw (tk T q.i).t) := rfl
  have HR : Hid (Rd w b m ad T cap q) := h
  have HZ : Hid ((tk T q.i).t.size ≤ 16) := hT.size q.i
  generalize kndV T q = KV at *
  generalize kndS T q = KS at *
  generalize tk T q.i = x at *
  obtain ⟨xk, xt, xp⟩ := x
  simp only at *
  obtain ⟨c0, c1, c2, c3, f1, f2, lt, _, _, _, _⟩ := h
  have hft := tok_text xk xp xt
  clear hi hn hT c0 c1 c2 f1 f2
  go_enter Tryd.func85, Tryd.ntmps85
  go_upto_region 1 with fail
  refine wp_region_held_drew (S := (fun w' => Gr w w' ∧ w'.cell? ⟨b, 3, none⟩ = some (.map (some m)) ∧ (Instr.lookup 108 (.map (some m)) (.string xt) true).run Tryd.prog w' = .ok (.tuple #[.int .i64 (kw xt), .bool (decide (kw xt ≠ 0))]) w')) (by kernel_rfl) (by exact holdK HR.out xt HZ.out (by (repeat' (first | with_reducible exact Gr.refl _ | with_reducible refine Gr.set ?_ _ ?_ _ | with_reducible refine Gr.alloc ?_ | with_reducible refine Gr.drew ?_ | with_reducible refine Gr.trans ?_ (by assumption))) <;> (first | (simp; done) | (simp; omega) | omega))) (fun hHeld => ?_)
  refine take_yes 0 6 (v := ?_) rfl rfl (by kernel_rfl) (by kernel_rfl) (by kernel_rfl) (fun _ _ _ h => h) (by rfl) ?_ hHeld ?_
  rotate_left
  · (intro w hSw; (try dsimp only at hSw); go_simp; try with_reducible rfl)
  simp only [Act.put, List.setIfInBounds_toArray, List.set_cons_zero, List.set_cons_succ]
  refine take_yes 1 7 (v := ?_) rfl rfl (by kernel_rfl) (by kernel_rfl) (by kernel_rfl) (fun _ _ _ h => h) (by rfl) ?_ hHeld ?_
  rotate_left
  · (intro w hSw; (try dsimp only at hSw); go_simp; try with_reducible rfl)
  simp only [Act.put, List.setIfInBounds_toArray, List.set_cons_zero, List.set_cons_succ]
  refine take_yes 2 8 (v := ?_) rfl rfl (by kernel_rfl) (by kernel_rfl) (by kernel_rfl) (fun _ _ _ h => h) (by rfl) ?_ hHeld ?_
  rotate_left
  · (intro w hSw; (try dsimp only at hSw); go_simp; try with_reducible rfl)
  simp only [Act.put, List.setIfInBounds_toArray, List.set_cons_zero, List.set_cons_succ]
  refine take_yes 3 9 (v := ?_) rfl rfl (by kernel_rfl) (by kernel_rfl) (by kernel_rfl) (fun _ _ _ h => h) (by rfl) ?_ hHeld ?_
  rotate_left
  · (intro w hSw; (try dsimp only at hSw); go_simp; try with_reducible rfl)
  simp only [Act.put, List.setIfInBounds_toArray, List.set_cons_zero, List.set_cons_succ]
  refine take_yes 4 10 (v := ?_) rfl rfl (by kernel_rfl) (by kernel_rfl) (by kernel_rfl) (fun _ _ _ h => h) (by rfl) ?_ hHeld ?_
  rotate_left
  · (intro w hSw; (try dsimp only at hSw); go_simp; try with_reducible rfl)
  simp only [Act.put, List.setIfInBounds_toArray, List.set_cons_zero, List.set_cons_succ]
  refine take_yes 5 11 (v := ?_) rfl rfl (by kernel_rfl) (by kernel_rfl) (by kernel_rfl) (fun _ _ _ h => h) (by rfl) ?_ hHeld ?_
  rotate_left
  · (intro w hSw; (try dsimp only at hSw); go_simp; try with_reducible rfl)
  simp only [Act.put, List.setIfInBounds_toArray, List.set_cons_zero, List.set_cons_succ]
  refine take_yes 6 12 (v := ?_) rfl rfl (by kernel_rfl) (by kernel_rfl) (by kernel_rfl) (fun _ _ _ h => h) (by rfl) ?_ hHeld ?_
  rotate_left
  · (intro w hSw; (try dsimp only at hSw); go_simp; try with_reducible rfl)
  simp only [Act.put, List.setIfInBounds_toArray, List.set_cons_zero, List.set_cons_succ]
  refine wpAnyH_ready (rs := [7]) (by kernel_rfl) (by simp) (AllReadyH.cons rfl (fun K hK => ?_) AllReadyH.nil)
  go_simp
  refine (H1.out _ (by (repeat' (first | with_reducible exact Gr.refl _ | with_reducible refine Gr.set ?_ _ ?_ _ | with_reducible refine Gr.alloc ?_ | with_reducible refine Gr.drew ?_ | with_reducible refine Gr.trans ?_ (by assumption))) <;> (first | (simp; done) | (simp; omega) | omega))).mono ?_; rintro e w1 ⟨rfl, hg1⟩
  (try go_wp2_with fail)
  refine hK.out _ _ (by exact holdK HR.out xt HZ.out (by (repeat' (first | with_reducible exact Gr.refl _ | with_reducible refine Gr.set ?_ _ ?_ _ | with_reducible refine Gr.alloc ?_ | with_reducible refine Gr.drew ?_ | with_reducible refine Gr.trans ?_ (by assumption))) <;> (first | (simp; done) | (simp; omega) | omega))) (fun hHeldN => ?_)
  clear hHeld hK K
  have hHeld := hHeldN
  clear hHeldN
  refine take_yes 8 14 (v := ?_) rfl rfl (by kernel_rfl) (by kernel_rfl) (by kernel_rfl) (fun _ _ _ h => h) (by rfl) ?_ hHeld ?_
  rotate_left
  · (intro w hSw; (try dsimp only at hSw); go_simp; try with_reducible rfl)
  simp only [Act.put, List.setIfInBounds_toArray, List.set_cons_zero, List.set_cons_succ]
  refine take_yes 9 15 (v := ?_) rfl rfl (by kernel_rfl) (by kernel_rfl) (by kernel_rfl) (fun _ _ _ h => h) (by rfl) ?_ hHeld ?_
  rotate_left
  · (intro w hSw; (try dsimp only at hSw); go_simp; try with_reducible rfl)
  simp only [Act.put, List.setIfInBounds_toArray, List.set_cons_zero, List.set_cons_succ]
  refine take_yes 10 5 (v := ?_) rfl rfl (by kernel_rfl) (by kernel_rfl) (by kernel_rfl) (fun _ _ _ h => h) (by rfl) ?_ hHeld ?_
  rotate_left
  · (intro w hSw; (try dsimp only at hSw); go_simp; try with_reducible rfl)
  simp only [Act.put, List.setIfInBounds_toArray, List.set_cons_zero, List.set_cons_succ]
  refine take_yes 11 16 (v := ?_) rfl rfl (by kernel_rfl) (by kernel_rfl) (by kernel_rfl) (fun _ _ _ h => h) (by rfl) ?_ hHeld ?_
  rotate_left
  · (intro w hSw; (try dsimp only at hSw); go_simp; try with_reducible rfl)
  simp only [Act.put, List.setIfInBounds_toArray, List.set_cons_zero, List.set_cons_succ]
  refine take_yes 12 17 (v := ?_) rfl rfl (by kernel_rfl) (by kernel_rfl) (by kernel_rfl) (fun _ _ _ h => h) (by rfl) ?_ hHeld ?_
  rotate_left
  · (intro w hSw; (try dsimp only at hSw); go_simp; try with_reducible rfl)
  simp only [Act.put, List.setIfInBounds_toArray, List.set_cons_zero, List.set_cons_succ]
  refine take_yes 13 3 (v := ?_) rfl rfl (by kernel_rfl) (by kernel_rfl) (by kernel_rfl) (fun _ _ _ h => h) (by rfl) ?_ hHeld ?_
  rotate_left
  · (intro w hSw; (try dsimp only at hSw); go_simp; try with_reducible rfl)
  simp only [Act.put, List.setIfInBounds_toArray, List.set_cons_zero, List.set_cons_succ]
  refine take_yes 14 4 (v := ?_) rfl rfl (by kernel_rfl) (by kernel_rfl) (by kernel_rfl) (fun _ _ _ h => h) (by rfl) ?_ hHeld ?_
  rotate_left
  · (intro w hSw; (try dsimp only at hSw); go_simp; try with_reducible rfl)
  simp only [Act.put, List.setIfInBounds_toArray, List.set_cons_zero, List.set_cons_succ]
  refine wpAnyH_done (by kernel_rfl) ?_ _
  have HGW : Hid (Gr w w1) := hHeld.1
  have HR1 := Lib.hid (HR.out.gr HGW.out)
  obtain ⟨c0, c1, c2, c3', f1, f2, lt', _, _, _, _⟩ := HR1.out
  clear hg1 hHeld c3 c3' lt
  by_cases h0 : kw xt = 0
  · rw [if_pos h0] at H2
    have hd : decide (kw xt = 0) = true := by simpa using h0
    have HV2 : Hid (KV = 0) := HV.out.trans h0
    rw [hd, h0]
    clear h0 hd HV
    go_wp2_with fail
    refine (H2.out _ (HR1.out.set2 true)).mono ?_
    rintro e w2 ⟨⟨sx, rfl⟩, hr, hg⟩
    have HR2 := Lib.hid hr
    have HG2 := Lib.hid hg
    clear hr hg
    go_wp2
    go_ret
    exact ⟨by rw [HV2.out]; rfl, HR2.out, (GB.setNew (GB.ofGr HGW.out) ⟨b, 2, none⟩ _ (Or.inr rfl)).trans HG2.out⟩
  · rw [if_neg h0] at H2
    have hd : decide (kw xt = 0) = false := by simpa using h0
    rw [hd]
    generalize kw xt = KX at *
    clear h0 hd
    go_wp2_with fail
    refine (H2.out _ HR1.out).mono ?_
    rintro e w2 ⟨⟨sx, rfl⟩, hr, hg⟩
    have HR2 := Lib.hid hr
    have HG2 := Lib.hid hg
    clear hr hg
    go_wp2
    go_ret
    exact ⟨by rw [HV.out]; rfl, HR2.out, (GB.ofGr HGW.out).trans HG2.out⟩
end Go.Proofs.YtfobfpigbfepoaaDoor
