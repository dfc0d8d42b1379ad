/- What the proof is made of, part 9. -/
import Derived.Test.YtfobfpigbfepoaaDoorTLBBack8
namespace Go.Proofs.YtfobfpigbfepoaaDoor
open Go.RowKit Go.Maps
open Lex (Tok valE valB)
open Df (Stp St tk Gd isT passB passS mustS takeB takeV takeS numV cntV optV optS kndV kndS kw stpV stpS)
theorem GB.acc {b : Nat} {w w' : World} {g : Nat} {a0 a1 a2 a3 a4 a5 a6 : Value} (h : GB b w w') (x : AccAt w g a0 a1 a2 a3 a4 a5 a6) (hne : g ≠ b) : AccAt w' g a0 a1 a2 a3 a4 a5 a6 :=
  ⟨h.keep x.lt hne x.c0, h.keep x.lt hne x.c1, h.keep x.lt hne x.c2, h.keep x.lt hne x.c3, h.keep x.lt hne x.c4, h.keep x.lt hne x.c5, h.keep x.lt hne x.c6, fun i hi => h.keepF x.lt hne (x.fz i hi), Nat.lt_of_lt_of_le x.lt h.size⟩
theorem AccAt.setFar {w : World} {g : Nat} {a0 a1 a2 a3 a4 a5 a6 : Value} (x : AccAt w g a0 a1 a2 a3 a4 a5 a6) (p : Addr) (v : Value) (hp : p.block ≠ g) : AccAt (w.setCell p v) g a0 a1 a2 a3 a4 a5 a6 := by
  have key : ∀ o, (w.setCell p v).cell? ⟨g, o, none⟩ = w.cell? ⟨g, o, none⟩ := fun o => World.cell?_setCell_far _ _ _ _ (by simpa using hp)
  have keyF : ∀ o, (w.setCell p v).frozen? ⟨g, o, none⟩ = w.frozen? ⟨g, o, none⟩ := fun o => World.frozen?_setCell _ _ _ _
  exact ⟨(key 0).trans x.c0, (key 1).trans x.c1, (key 2).trans x.c2, (key 3).trans x.c3, (key 4).trans x.c4, (key 5).trans x.c5, (key 6).trans x.c6, fun i hi => (keyF i).trans (x.fz i hi), by simpa using x.lt⟩
theorem AccAt.s0 {w : World} {g : Nat} {a0 a1 a2 a3 a4 a5 a6 : Value} (x : AccAt w g a0 a1 a2 a3 a4 a5 a6) (v : Value) : AccAt (w.setCell ⟨g, 0, none⟩ v) g v a1 a2 a3 a4 a5 a6 := by
  obtain ⟨h0, h1, h2, h3, h4, h5, h6⟩ := x.cells
  have hl := x.lt
  have hf := x.fz
  exact ⟨by simp [go_sem, *], by simp [go_sem, *], by simp [go_sem, *], by simp [go_sem, *], by simp [go_sem, *], by simp [go_sem, *], by simp [go_sem, *], fun i hi => by simp [go_sem, *], by simpa using hl⟩
theorem AccAt.s1 {w : World} {g : Nat} {a0 a1 a2 a3 a4 a5 a6 : Value} (x : AccAt w g a0 a1 a2 a3 a4 a5 a6) (v : Value) : AccAt (w.setCell ⟨g, 1, none⟩ v) g a0 v a2 a3 a4 a5 a6 := by
  obtain ⟨h0, h1, h2, h3, h4, h5, h6⟩ := x.cells
  have hl := x.lt
  have hf := x.fz
  exact ⟨by simp [go_sem, *], by simp [go_sem, *], by simp [go_sem, *], by simp [go_sem, *], by simp [go_sem, *], by simp [go_sem, *], by simp [go_sem, *], fun i hi => by simp [go_sem, *], by simpa using hl⟩
theorem AccAt.s2 {w : World} {g : Nat} {a0 a1 a2 a3 a4 a5 a6 : Value} (x : AccAt w g a0 a1 a2 a3 a4 a5 a6) (v : Value) : AccAt (w.setCell ⟨g, 2, none⟩ v) g a0 a1 v a3 a4 a5 a6 := by
  obtain ⟨h0, h1, h2, h3, h4, h5, h6⟩ := x.cells
  have hl := x.lt
  have hf := x.fz
  exact ⟨by simp [go_sem, *], by simp [go_sem, *], by simp [go_sem, *], by simp [go_sem, *], by simp [go_sem, *], by simp [go_sem, *], by simp [go_sem, *], fun i hi => by simp [go_sem, *], by simpa using hl⟩
theorem AccAt.s3 {w : World} {g : Nat} {a0 a1 a2 a3 a4 a5 a6 : Value} (x : AccAt w g a0 a1 a2 a3 a4 a5 a6) (v : Value) : AccAt (w.setCell ⟨g, 3, none⟩ v) g a0 a1 a2 v a4 a5 a6 := by
  obtain ⟨h0, h1, h2, h3, h4, h5, h6⟩ := x.cells
  have hl := x.lt
  have hf := x.fz
  exact ⟨by simp [go_sem, *], by simp [go_sem, *], by simp [go_sem, *], by simp [go_sem, *], by simp [go_sem, *], by simp [go_sem, *], by simp [go_sem, *], fun i hi => by simp [go_sem, *], by simpa using hl⟩
theorem AccAt.s4 {w : World} {g : Nat} {a0 a1 a2 a3 a4 a5 a6 : Value} (x : AccAt w g a0 a1 a2 a3 a4 a5 a6) (v : Value) : AccAt (w.setCell ⟨g, 4, none⟩ v) g a0 a1 a2 a3 v a5 a6 := by
  obtain ⟨h0, h1, h2, h3, h4, h5, h6⟩ := x.cells
  have hl := x.lt
  have hf := x.fz
  exact ⟨by simp [go_sem, *], by simp [go_sem, *], by simp [go_sem, *], by simp [go_sem, *], by simp [go_sem, *], by simp [go_sem, *], by simp [go_sem, *], fun i hi => by simp [go_sem, *], by simpa using hl⟩
theorem AccAt.s5 {w : World} {g : Nat} {a0 a1 a2 a3 a4 a5 a6 : Value} (x : AccAt w g a0 a1 a2 a3 a4 a5 a6) (v : Value) : AccAt (w.setCell ⟨g, 5, none⟩ v) g a0 a1 a2 a3 a4 v a6 := by
  obtain ⟨h0, h1, h2, h3, h4, h5, h6⟩ := x.cells
  have hl := x.lt
  have hf := x.fz
  exact ⟨by simp [go_sem, *], by simp [go_sem, *], by simp [go_sem, *], by simp [go_sem, *], by simp [go_sem, *], by simp [go_sem, *], by simp [go_sem, *], fun i hi => by simp [go_sem, *], by simpa using hl⟩
theorem AccAt.s6 {w : World} {g : Nat} {a0 a1 a2 a3 a4 a5 a6 : Value} (x : AccAt w g a0 a1 a2 a3 a4 a5 a6) (v : Value) : AccAt (w.setCell ⟨g, 6, none⟩ v) g a0 a1 a2 a3 a4 a5 v := by
  obtain ⟨h0, h1, h2, h3, h4, h5, h6⟩ := x.cells
  have hl := x.lt
  have hf := x.fz
  exact ⟨by simp [go_sem, *], by simp [go_sem, *], by simp [go_sem, *], by simp [go_sem, *], by simp [go_sem, *], by simp [go_sem, *], by simp [go_sem, *], fun i hi => by simp [go_sem, *], by simpa using hl⟩
set_option maxHeartbeats 8000000 in
set_option maxRecDepth 100000 in
theorem dStep_any (b m : Nat) (ad : Option Addr) (T : List Tok) (cap : Nat) (q : St) (w : World) (h : Rd w b m ad T cap q) (hT : Gd T) (hi : q.i < T.length) (hn : T.length ≤ 5000) :
    Calls Tryd.prog 73 #[.pointer (some ⟨b, 0, none⟩)] w fun e w' => e = .returned (.agg #[.int .i64 (stpV T q).k, .string (stpV T q).a, .int .i64 (stpV T q).n, .int .i64 (stpV T q).o, .string (stpV T q).u, .int .i64 (stpV T q).y, .int .i64 (stpV T q).v]) ∧ Rd w' b m ad T cap (stpS T q) ∧ GB b w w' := by
  have HP : Hid (∀ w', Rd w' b m ad T cap q → Calls Tryd.prog 72 #[.pointer (some ⟨b, 0, none⟩), .int .i64 1, .string ⟨#[97, 115, 107]⟩] w' fun e w2 => e = .returned (.bool (passB T q 1 Df.wAsk)) ∧ Rd w2 b m ad T cap (passS T q 1 Df.wAsk) ∧ GB b w' w2) := fun w' h' => dPass_any b m ad T cap q 1 Df.wAsk w' h' hi hn
  have HR0 : Hid (Rd ((w.alloc (.cells #[.int .i64 0, .string ⟨#[]⟩, .int .i64 0, .int .i64 0, .string ⟨#[]⟩, .int .i64 0, .int .i64 0] 68)).alloc (.cells #[.int .i64 0, .string ⟨#[]⟩, .int .i64 0, .int .i64 0, .string ⟨#[]⟩, .int .i64 0, .int .i64 0] 68)) b m ad T cap q) := (h.gr (Gr.refl _).alloc).gr (Gr.refl _).alloc
  have HRT : Hid (Rd w b m ad T cap q) := h
  have HG0 : Hid (GB b w ((w.alloc (.cells #[.int .i64 0, .string ⟨#[]⟩, .int .i64 0, .int .i64 0, .string ⟨#[]⟩, .int .i64 0, .int .i64 0] 68)).alloc (.cells #[.int .i64 0, .string ⟨#[]⟩, .int .i64 0, .int .i64 0, .string ⟨#[]⟩, .int .i64 0, .int .i64 0] 68))) := ((GB.refl b w).alloc).alloc
  have HA0 : Hid (AccAt ((w.alloc (.cells #[.int .i64 0, .string ⟨#[]⟩, .int .i64 0, .int .i64 0, .string ⟨#[]⟩, .int .i64 0, .int .i64 0] 68)).alloc (.cells #[.int .i64 0, .string ⟨#[]⟩, .int .i64 0, .int .i64 0, .string ⟨#[]⟩, .int .i64 0, .int .i64 0] 68)) w.heap.size (.int .i64 0) (.string ⟨#[]⟩) (.int .i64 0) (.int .i64 0) (.string ⟨#[]⟩) (.int .i64 0) (.int .i64 0)) := (AccAt.new w (.int .i64 0) (.string ⟨#[]⟩) (.int .i64 0) (.int .i64 0) (.string ⟨#[]⟩) (.int .i64 0) (.int .i64 0) 68 _ rfl).gr (Gr.refl _).alloc
  have HB0 : Hid (AccAt ((w.alloc (.cells #[.int .i64 0, .string ⟨#[]⟩, .int .i64 0, .int .i64 0, .string ⟨#[]⟩, .int .i64 0, .int .i64 0] 68)).alloc (.cells #[.int .i64 0, .string ⟨#[]⟩, .int .i64 0, .int .i64 0, .string ⟨#[]⟩, .int .i64 0, .int .i64 0] 68)) (w.heap.size + 1) (.int .i64 0) (.string ⟨#[]⟩) (.int .i64 0) (.int .i64 0) (.string ⟨#[]⟩) (.int .i64 0) (.int .i64 0)) := AccAt.new _ (.int .i64 0) (.string ⟨#[]⟩) (.int .i64 0) (.int .i64 0) (.string ⟨#[]⟩) (.int .i64 0) (.int .i64 0) 68 _ (by simp)
  have HNE : Hid (w.heap.size ≠ b) := by have := h.lt; show _ ≠ _; omega
  have HNB : Hid (w.heap.size + 1 ≠ b) := by have := h.lt; show _ ≠ _; omega
  have hp := pass_lt hT 1 Df.wAsk (by decide) hi
  have hpo : ¬ passB T q 1 Df.wAsk = true → passS T q 1 Df.wAsk = q := fun hf => by unfold Df.passS; rw [if_neg hf]
  have HV : Hid (stpV T q = if passB T q 1 Df.wAsk = true then
    ⟨0, ⟨#[]⟩, 0, cntV T (passS T q 1 Df.wAsk), takeV T (takeS T (passS T q 1 Df.wAsk) 2) 1, 0, optV T (takeS T (takeS T (passS T q 1 Df.wAsk) 2) 1) Df.wWait 20⟩
  else
    ⟨kndV T q, takeV T (kndS T q) 1, numV T (takeS T (kndS T q) 1), 0, ⟨#[]⟩, optV T (takeS T (takeS T (kndS T q) 1) 2) Df.wTries 1, 0⟩) := rfl
  have HS : Hid (stpS T q = mustS T (if passB T q 1 Df.wAsk = true then optS T (takeS T (takeS T (passS T q 1 Df.wAsk) 2) 1) Df.wWait else optS T (takeS T (takeS T (kndS T q) 1) 2) Df.wTries) 3 Df.gSemi) := rfl
  by_cases hb : passB T q 1 Df.wAsk = true
  · rw [if_pos hb] at HV HS
    rw [hb] at HP
    generalize passS T q 1 Df.wAsk = q1 at *
    have l2 := take_lt hT 2 (by decide) hp
    have l3 := take_lt hT 1 (by decide) l2
    have l4 := opt_lt hT Df.wWait l3
    have K1 : Hid (∀ w', Rd w' b m ad T cap q1 → Calls Tryd.prog 83 #[.pointer (some ⟨b, 0, none⟩)] w' fun e w2 => e = .returned (.int .i64 (cntV T q1)) ∧ Rd w2 b m ad T cap (takeS T q1 2) ∧ GB b w' w2) := fun w' h' => dCount_any b m ad T cap q1 w' h' hT hp hn
    generalize takeS T q1 2 = q2 at *
    have K2 : Hid (∀ w', Rd w' b m ad T cap q2 → Calls Tryd.prog 71 #[.pointer (some ⟨b, 0, none⟩), .int .i64 1] w' fun e w2 => e = .returned (.string (takeV T q2 1)) ∧ Rd w2 b m ad T cap (takeS T q2 1) ∧ GB b w' w2) := fun w' h' => dTake_any b m ad T cap q2 1 w' h' hT l2 hn
    generalize takeS T q2 1 = q3 at *
    have K3 : Hid (∀ w', Rd w' b m ad T cap q3 → Calls Tryd.prog 84 #[.pointer (some ⟨b, 0, none⟩), .string ⟨#[119, 97, 105, 116]⟩, .int .i64 20] w' fun e w2 => e = .returned (.int .i64 (optV T q3 Df.wWait 20)) ∧ Rd w2 b m ad T cap (optS T q3 Df.wWait) ∧ GB b w' w2) := fun w' h' => dOption_any b m ad T cap q3 Df.wWait 20 w' h' hT l3 hn
    generalize optS T q3 Df.wWait = q4 at *
    have K4 : Hid (∀ w', Rd w' b m ad T cap q4 → Calls Tryd.prog 70 #[.pointer (some ⟨b, 0, none⟩), .int .i64 3, .string ⟨#[59]⟩] w' fun e w2 => e = .returned (.tuple #[]) ∧ Rd w2 b m ad T cap (mustS T q4 3 Df.gSemi) ∧ GB b w' w2) := fun w' h' => dMust_any b m ad T cap q4 3 Df.gSemi w' h' l4 hn
    generalize mustS T q4 3 Df.gSemi = q5 at *
    generalize cntV T q1 = V1 at *
    generalize takeV T q2 1 = V2 at *
    generalize optV T q3 Df.wWait 20 = V3 at *
    generalize stpV T q = SV at *
    generalize stpS T q = SS at *
    obtain ⟨s0, s1, s2, s3, s4, s5, s6⟩ := SV
    simp only
    clear hi hn hT h hp l2 l3 l4 hb hpo
    go_enter Tryd.func73, Tryd.ntmps73
    go_wp2_with fail
    refine (HP.out _ HR0.out).mono ?_
    rintro e w1 ⟨rfl, hr, hg⟩
    have HR1 := Lib.hid hr
    have HG1 := Lib.hid (HG0.out.trans hg)
    have HA1 := Lib.hid (hg.acc HA0.out HNE.out)
    have HB1 := Lib.hid (hg.acc HB0.out HNB.out)
    clear hr hg
    go_wp2_with fail
    refine (K1.out _ HR1.out).mono ?_
    rintro e w2 ⟨rfl, hr, hg⟩
    have HA2a := hg.acc HA1.out HNE.out
    have HB2a := hg.acc HB1.out HNB.out
    have HR2 := Lib.hid (hr.setTop HRT.out ⟨w.heap.size + 1, 3, none⟩ (.int .i64 V1) (by simp))
    have HG2 := Lib.hid (GB.setNew (HG1.out.trans hg) ⟨w.heap.size + 1, 3, none⟩ (.int .i64 V1) (Or.inl (by simp)))
    have HB2 := Lib.hid (HB2a.s3 (.int .i64 V1))
    have HA2 := Lib.hid (HA2a.setFar ⟨w.heap.size + 1, 3, none⟩ (.int .i64 V1) (by simp))
    obtain ⟨b0, b1, b2, b3, b4, b5, b6⟩ := HB2a.cells
    obtain ⟨f0, f1, f2, f3, f4, f5, f6⟩ := HB2a.frozens
    have bl := HB2a.lt
    clear hr hg HA2a HB2a
    go_wp2_with fail
    refine (K2.out _ HR2.out).mono ?_
    rintro e w3 ⟨rfl, hr, hg⟩
    have HA3a := hg.acc HA2.out HNE.out
    have HB3a := hg.acc HB2.out HNB.out
    have HR3 := Lib.hid (hr.setTop HRT.out ⟨w.heap.size + 1, 4, none⟩ (.string V2) (by simp))
    have HG3 := Lib.hid (GB.setNew (HG2.out.trans hg) ⟨w.heap.size + 1, 4, none⟩ (.string V2) (Or.inl (by simp)))
    have HB3 := Lib.hid (HB3a.s4 (.string V2))
    have HA3 := Lib.hid (HA3a.setFar ⟨w.heap.size + 1, 4, none⟩ (.string V2) (by simp))
    obtain ⟨b0, b1, b2, b3, b4, b5, b6⟩ := HB3a.cells
    obtain ⟨f0, f1, f2, f3, f4, f5, f6⟩ := HB3a.frozens
    have bl := HB3a.lt
    clear hr hg HA3a HB3a
    go_wp2_with fail
    refine (K3.out _ HR3.out).mono ?_
    rintro e w4 ⟨rfl, hr, hg⟩
    have HA4a := hg.acc HA3.out HNE.out
    have HB4a := hg.acc HB3.out HNB.out
    have HR4 := Lib.hid (hr.setTop HRT.out ⟨w.heap.size + 1, 6, none⟩ (.int .i64 V3) (by simp))
    have HG4 := Lib.hid (GB.setNew (HG3.out.trans hg) ⟨w.heap.size + 1, 6, none⟩ (.int .i64 V3) (Or.inl (by simp)))
    have HB4 := Lib.hid (HB4a.s6 (.int .i64 V3))
    have HA4 := Lib.hid (HA4a.setFar ⟨w.heap.size + 1, 6, none⟩ (.int .i64 V3) (by simp))
    obtain ⟨b0, b1, b2, b3, b4, b5, b6⟩ := HB4a.cells
    obtain ⟨f0, f1, f2, f3, f4, f5, f6⟩ := HB4a.frozens
    have bl := HB4a.lt
    clear hr hg HA4a HB4a
    go_wp2_with fail
    refine (K4.out _ HR4.out).mono ?_
    rintro e w5 ⟨rfl, hr, hg⟩
    have HA5a := hg.acc HA4.out HNE.out
    have HB5a := hg.acc HB4.out HNB.out
    have HR5 := Lib.hid hr
    have HG5 := Lib.hid (HG4.out.trans hg)
    obtain ⟨b0, b1, b2, b3, b4, b5, b6⟩ := HB5a.cells
    obtain ⟨a0, a1, a2, a3, a4, a5, a6⟩ := HA5a.cells
    obtain ⟨f0, f1, f2, f3, f4, f5, f6⟩ := HA5a.frozens
    have bl := HB5a.lt
    have al := HA5a.lt
    clear hr hg HA5a HB5a
    go_wp2
    refine bodyPost_ret (v := .agg #[.int .i64 0, .string ⟨#[]⟩, .int .i64 0, .int .i64 V1, .string V2, .int .i64 0, .int .i64 V3]) (by simp [results, Tryd.results73, go_sem, *]) rfl ⟨?_, ?_, ?_⟩
    · have e0 := HV.out
      simp only [Df.Stp.mk.injEq] at e0
      obtain ⟨e0, e1, e2, e3, e4, e5, e6⟩ := e0
      rw [e0, e1, e2, e3, e4, e5, e6]
    · rw [HS.out]
      repeat (first | with_reducible exact HR5.out | with_reducible refine Rd.setTop ?_ HRT.out _ _ (by simp))
    · repeat (first | with_reducible exact HG5.out | with_reducible refine GB.setNew ?_ _ _ (Or.inl (by simp)))
  · rw [if_neg hb] at HV HS
    rw [hpo hb, show passB T q 1 Df.wAsk = false by simpa using hb] at HP
    have l1 := knd_lt hT hi
    have K1 : Hid (∀ w', Rd w' b m ad T cap q → Calls Tryd.prog 85 #[.pointer (some ⟨b, 0, none⟩)] w' fun e w2 => e = .returned (.int .i64 (kndV T q)) ∧ Rd w2 b m ad T cap (kndS T q) ∧ GB b w' w2) := fun w' h' => dKind_any b m ad T cap q w' h' hT hi hn
    generalize kndS T q = q2 at *
    have l2 := take_lt hT 1 (by decide) l1
    have K2 : Hid (∀ w', Rd w' b m ad T cap q2 → Calls Tryd.prog 71 #[.pointer (some ⟨b, 0, none⟩), .int .i64 1] w' fun e w2 => e = .returned (.string (takeV T q2 1)) ∧ Rd w2 b m ad T cap (takeS T q2 1) ∧ GB b w' w2) := fun w' h' => dTake_any b m ad T cap q2 1 w' h' hT l1 hn
    generalize takeS T q2 1 = q3 at *
    have l3 := take_lt hT 2 (by decide) l2
    have K3 : Hid (∀ w', Rd w' b m ad T cap q3 → Calls Tryd.prog 86 #[.pointer (some ⟨b, 0, none⟩)] w' fun e w2 => e = .returned (.int .i64 (numV T q3)) ∧ Rd w2 b m ad T cap (takeS T q3 2) ∧ GB b w' w2) := fun w' h' => dNumber_any b m ad T cap q3 w' h' hT l2 hn
    generalize takeS T q3 2 = q4 at *
    have l4 := opt_lt hT Df.wTries l3
    have K4 : Hid (∀ w', Rd w' b m ad T cap q4 → Calls Tryd.prog 84 #[.pointer (some ⟨b, 0, none⟩), .string ⟨#[116, 114, 105, 101, 115]⟩, .int .i64 1] w' fun e w2 => e = .returned (.int .i64 (optV T q4 Df.wTries 1)) ∧ Rd w2 b m ad T cap (optS T q4 Df.wTries) ∧ GB b w' w2) := fun w' h' => dOption_any b m ad T cap q4 Df.wTries 1 w' h' hT l3 hn
    generalize optS T q4 Df.wTries = q5 at *
    have K5 : Hid (∀ w', Rd w' b m ad T cap q5 → Calls Tryd.prog 70 #[.pointer (some ⟨b, 0, none⟩), .int .i64 3, .string ⟨#[59]⟩] w' fun e w2 => e = .returned (.tuple #[]) ∧ Rd w2 b m ad T cap (mustS T q5 3 Df.gSemi) ∧ GB b w' w2) := fun w' h' => dMust_any b m ad T cap q5 3 Df.gSemi w' h' l4 hn
    generalize mustS T q5 3 Df.gSemi = q6 at *
    generalize kndV T q = V1 at *
    generalize takeV T q2 1 = V2 at *
    generalize numV T q3 = V3 at *
    generalize optV T q4 Df.wTries 1 = V4 at *
    generalize stpV T q = SV at *
    generalize stpS T q = SS at *
    obtain ⟨s0, s1, s2, s3, s4, s5, s6⟩ := SV
    simp only
    clear hi hn hT h hp l1 l2 l3 l4 hb hpo
    go_enter Tryd.func73, Tryd.ntmps73
    go_wp2_with fail
    refine (HP.out _ HR0.out).mono ?_
    rintro e w1 ⟨rfl, hr, hg⟩
    have HR1 := Lib.hid hr
    have HG1 := Lib.hid (HG0.out.trans hg)
    have HA1 := Lib.hid (hg.acc HA0.out HNE.out)
    have HB1 := Lib.hid (hg.acc HB0.out HNB.out)
    clear hr hg
    go_wp2_with fail
    refine (K1.out _ HR1.out).mono ?_
    rintro e w2 ⟨rfl, hr, hg⟩
    have HA2a := hg.acc HA1.out HNE.out
    have HB2a := hg.acc HB1.out HNB.out
    have HR2 := Lib.hid (hr.setTop HRT.out ⟨w.heap.size + 1, 0, none⟩ (.int .i64 V1) (by simp))
    have HG2 := Lib.hid (GB.setNew (HG1.out.trans hg) ⟨w.heap.size + 1, 0, none⟩ (.int .i64 V1) (Or.inl (by simp)))
    have HB2 := Lib.hid (HB2a.s0 (.int .i64 V1))
    have HA2 := Lib.hid (HA2a.setFar ⟨w.heap.size + 1, 0, none⟩ (.int .i64 V1) (by simp))
    obtain ⟨b0, b1, b2, b3, b4, b5, b6⟩ := HB2a.cells
    obtain ⟨f0, f1, f2, f3, f4, f5, f6⟩ := HB2a.frozens
    have bl := HB2a.lt
    clear hr hg HA2a HB2a
    go_wp2_with fail
    refine (K2.out _ HR2.out).mono ?_
    rintro e w3 ⟨rfl, hr, hg⟩
    have HA3a := hg.acc HA2.out HNE.out
    have HB3a := hg.acc HB2.out HNB.out
    have HR3 := Lib.hid (hr.setTop HRT.out ⟨w.heap.size + 1, 1, none⟩ (.string V2) (by simp))
    have HG3 := Lib.hid (GB.setNew (HG2.out.trans hg) ⟨w.heap.size + 1, 1, none⟩ (.string V2) (Or.inl (by simp)))
    have HB3 := Lib.hid (HB3a.s1 (.string V2))
    have HA3 := Lib.hid (HA3a.setFar ⟨w.heap.size + 1, 1, none⟩ (.string V2) (by simp))
    obtain ⟨b0, b1, b2, b3, b4, b5, b6⟩ := HB3a.cells
    obtain ⟨f0, f1, f2, f3, f4, f5, f6⟩ := HB3a.frozens
    have bl := HB3a.lt
    clear hr hg HA3a HB3a
    go_wp2_with fail
    refine (K3.out _ HR3.out).mono ?_
    rintro e w4 ⟨rfl, hr, hg⟩
    have HA4a := hg.acc HA3.out HNE.out
    have HB4a := hg.acc HB3.out HNB.out
    have HR4 := Lib.hid (hr.setTop HRT.out ⟨w.heap.size + 1, 2, none⟩ (.int .i64 V3) (by simp))
    have HG4 := Lib.hid (GB.setNew (HG3.out.trans hg) ⟨w.heap.size + 1, 2, none⟩ (.int .i64 V3) (Or.inl (by simp)))
    have HB4 := Lib.hid (HB4a.s2 (.int .i64 V3))
    have HA4 := Lib.hid (HA4a.setFar ⟨w.heap.size + 1, 2, none⟩ (.int .i64 V3) (by simp))
    obtain ⟨b0, b1, b2, b3, b4, b5, b6⟩ := HB4a.cells
    obtain ⟨f0, f1, f2, f3, f4, f5, f6⟩ := HB4a.frozens
    have bl := HB4a.lt
    clear hr hg HA4a HB4a
    go_wp2_with fail
    refine (K4.out _ HR4.out).mono ?_
    rintro e w5 ⟨rfl, hr, hg⟩
    have HA5a := hg.acc HA4.out HNE.out
    have HB5a := hg.acc HB4.out HNB.out
    have HR5 := Lib.hid (hr.setTop HRT.out ⟨w.heap.size + 1, 5, none⟩ (.int .i64 V4) (by simp))
    have HG5 := Lib.hid (GB.setNew (HG4.out.trans hg) ⟨w.heap.size + 1, 5, none⟩ (.int .i64 V4) (Or.inl (by simp)))
    have HB5 := Lib.hid (HB5a.s5 (.int .i64 V4))
    have HA5 := Lib.hid (HA5a.setFar ⟨w.heap.size + 1, 5, none⟩ (.int .i64 V4) (by simp))
    obtain ⟨b0, b1, b2, b3, b4, b5, b6⟩ := HB5a.cells
    obtain ⟨f0, f1, f2, f3, f4, f5, f6⟩ := HB5a.frozens
    have bl := HB5a.lt
    clear hr hg HA5a HB5a
    go_wp2_with fail
    refine (K5.out _ HR5.out).mono ?_
    rintro e w6 ⟨rfl, hr, hg⟩
    have HA6a := hg.acc HA5.out HNE.out
    have HB6a := hg.acc HB5.out HNB.out
    have HR6 := Lib.hid hr
    have HG6 := Lib.hid (HG5.out.trans hg)
    obtain ⟨b0, b1, b2, b3, b4, b5, b6⟩ := HB6a.cells
    obtain ⟨a0, a1, a2, a3, a4, a5, a6⟩ := HA6a.cells
    obtain ⟨f0, f1, f2, f3, f4, f5, f6⟩ := HA6a.frozens
    have bl := HB6a.lt
    have al := HA6a.lt
    clear hr hg HA6a HB6a
    go_wp2
    refine bodyPost_ret (v := .agg #[.int .i64 V1, .string V2, .int .i64 V3, .int .i64 0, .string ⟨#[]⟩, .int .i64 V4, .int .i64 0]) (by simp [results, Tryd.results73, go_sem, *]) rfl ⟨?_, ?_, ?_⟩
    · have e0 := HV.out
      simp only [Df.Stp.mk.injEq] at e0
      obtain ⟨e0, e1, e2, e3, e4, e5, e6⟩ := e0
      rw [e0, e1, e2, e3, e4, e5, e6]
    · rw [HS.out]
      repeat (first | with_reducible exact HR6.out | with_reducible refine Rd.setTop ?_ HRT.out _ _ (by simp))
    · repeat (first | with_reducible exact HG6.out | with_reducible refine GB.setNew ?_ _ _ (Or.inl (by simp)))
end Go.Proofs.YtfobfpigbfepoaaDoor
namespace Go.Proofs.YtfobfpigbfepoaaDoor
variable {P : Program} {md : Region.Mode} {ops : Array Oper} {Q : Exit → Act → World → Prop}
def wpAnyL (P : Program) (md : Region.Mode) (ops : Array Oper) (Q : Exit → Act → World → Prop) (s : Nat) (S : World → Prop) : Nat → Array Bool → Act → World → Prop
  | 0, listed, a, w => Region.ready md ops listed = [] ∧ Q .normal a w
  | fuel + 1, listed, a, w =>
    (Region.ready md ops listed = [] → Q .normal a w) ∧
    ∀ i ∈ Region.ready md ops listed, wpOp P ops Q i (fun a' w' => ((listed.setIfInBounds i true).getD s true = false → S w') ∧ wpAnyL P md ops Q s S fuel (listed.setIfInBounds i true) a' w') a w
variable {s : Nat} {S : World → Prop}
theorem wpAny_of_L : ∀ (fuel : Nat) (listed : Array Bool) (a : Act) (w : World), wpAnyL P md ops Q s S fuel listed a w → wpAny P md ops Q fuel listed a w
  | 0, _, _, _, h => h
  | fuel + 1, _, _, _, h => ⟨h.1, fun i hi => wpOp_mono (fun a' w' h' => wpAny_of_L fuel _ a' w' h'.2) (h.2 i hi)⟩
theorem getD_ne {l : Array Bool} {i j : Nat} (h : i ≠ j) : (l.setIfInBounds i true).getD j true = l.getD j true := getD_set_ne true h
theorem wpAnyL_first {i : Nat} {oi os : Oper} {v : Value} (hi : ops[i]? = some oi) (hsel : ∀ (j : Nat) (o : Oper) cs b, ops[j]? = some o → o.op ≠ .select cs b)
    (hQ : ∀ c a w, Q (.panic c) (a.put oi.dst v) w → Q (.panic c) a w) (his : i ≠ s) (hos : ops[s]? = some os) (hdep : ∃ e ∈ os.after, Region.binds md e = true ∧ e.on = i) :
    ∀ (fuel : Nat) (listed : Array Bool) (a : Act) (w : World),
      (∀ j oj, ops[j]? = some oj → j ≠ i → listed.getD j true = false → (∀ e ∈ oj.after, Region.binds md e = true → e.on ≠ i) → oi.apart ops oj = true) →
      i ∈ Region.ready md ops listed → YieldsIf P ops S oi v a → listed.getD s true = false → S w →
      wpAnyL P md ops Q s S fuel (listed.setIfInBounds i true) (a.put oi.dst v) w → wpAnyL P md ops Q s S (fuel + 1) listed a w := by
  intro fuel
  induction fuel with
  | zero =>
    intro listed a w _ hr hy _ hS H
    refine ⟨fun h => (by rw [h] at hr; cases hr), fun j hj => ?_⟩
    by_cases hji : j = i
    · subst hji; exact hy.wpOp hi hS ⟨fun _ => hS, H⟩
    · have := ready_mono hj hji
      rw [H.1] at this
      cases this
  | succ fuel ih =>
    intro listed a w hfree hr hy hls hS H
    refine ⟨fun h => (by rw [h] at hr; cases hr), fun j hj => ?_⟩
    by_cases hji : j = i
    · subst hji; exact hy.wpOp hi hS ⟨fun _ => hS, H⟩
    · have h1 := H.2 j (ready_mono hj hji)
      obtain ⟨hjun, oj, hoj, hall⟩ := mem_ready.1 hj
      have hnot : ∀ e ∈ oj.after, Region.binds md e = true → e.on ≠ i := fun e he hb heq => by
        have h1 := hall e he hb
        have h0 := (mem_ready.1 hr).1
        rw [heq] at h1
        rcases Nat.lt_or_ge i listed.size with h' | h'
        · simp [h'] at h0 h1; rw [h0] at h1; cases h1
        · simp [Array.getElem?_eq_none h'] at h1
      have hjs : j ≠ s := fun e => by
        subst e
        rw [hos] at hoj
        cases hoj
        obtain ⟨e, he, hb, hon⟩ := hdep
        exact hnot e he hb hon
      have h2 := wpOp_putIf hoj (hfree j oj hoj hji hjun hnot) (fun cs b => hsel i oi cs b hi) (fun cs b => hsel j oj cs b hoj) hQ hy h1
      have hfree' : ∀ k ok, ops[k]? = some ok → k ≠ i → (listed.setIfInBounds j true).getD k true = false →
          (∀ e ∈ ok.after, Region.binds md e = true → e.on ≠ i) → oi.apart ops ok = true := fun k ok hk hki hun hno => by
        refine hfree k ok hk hki ?_ hno
        by_cases hjk : j = k
        · subst hjk; exact hjun
        · rw [getD_set_ne true hjk] at hun; exact hun
      have hls' : (listed.setIfInBounds j true).getD s true = false := by rw [getD_ne hjs]; exact hls
      have hls2 : ((listed.setIfInBounds i true).setIfInBounds j true).getD s true = false := by rw [getD_ne hjs, getD_ne his]; exact hls
      refine wpOp_mono (fun a' w' h3 => ⟨fun _ => h3.2.1 hls2, ih (listed.setIfInBounds j true) a' w' hfree' (ready_mono hr (Ne.symm hji)) h3.1 hls' (h3.2.1 hls2) ?_⟩) h2
      rw [Array.setIfInBounds_comm _ _ hji]
      exact h3.2.2
theorem wpAnyL_firstW {i : Nat} {oi : Oper} {v : Value} (hi : ops[i]? = some oi) (hsel : ∀ (j : Nat) (o : Oper) cs b, ops[j]? = some o → o.op ≠ .select cs b)
    (hQ : ∀ c a w, Q (.panic c) (a.put oi.dst v) w → Q (.panic c) a w) (his : i ≠ s) :
    ∀ (fuel : Nat) (listed : Array Bool) (a : Act) (w : World),
      (∀ j oj, ops[j]? = some oj → j ≠ i → listed.getD j true = false → (∀ e ∈ oj.after, Region.binds md e = true → e.on ≠ i) → oi.apart ops oj = true) →
      i ∈ Region.ready md ops listed → YieldsIf P ops (fun _ => True) oi v a → (listed.getD s true = false → S w) →
      wpAnyL P md ops Q s S fuel (listed.setIfInBounds i true) (a.put oi.dst v) w → wpAnyL P md ops Q s S (fuel + 1) listed a w := by
  intro fuel
  induction fuel with
  | zero =>
    intro listed a w _ hr hy hS H
    refine ⟨fun h => (by rw [h] at hr; cases hr), fun j hj => ?_⟩
    by_cases hji : j = i
    · subst hji; exact hy.wpOp hi trivial ⟨fun h => hS (by rw [getD_ne his] at h; exact h), H⟩
    · have := ready_mono hj hji
      rw [H.1] at this
      cases this
  | succ fuel ih =>
    intro listed a w hfree hr hy hS H
    refine ⟨fun h => (by rw [h] at hr; cases hr), fun j hj => ?_⟩
    by_cases hji : j = i
    · subst hji; exact hy.wpOp hi trivial ⟨fun h => hS (by rw [getD_ne his] at h; exact h), H⟩
    · have h1 := H.2 j (ready_mono hj hji)
      obtain ⟨hjun, oj, hoj, hall⟩ := mem_ready.1 hj
      have hnot : ∀ e ∈ oj.after, Region.binds md e = true → e.on ≠ i := fun e he hb heq => by
        have h1 := hall e he hb
        have h0 := (mem_ready.1 hr).1
        rw [heq] at h1
        rcases Nat.lt_or_ge i listed.size with h' | h'
        · simp [h'] at h0 h1; rw [h0] at h1; cases h1
        · simp [Array.getElem?_eq_none h'] at h1
      have h2 := wpOp_putIf hoj (hfree j oj hoj hji hjun hnot) (fun cs b => hsel i oi cs b hi) (fun cs b => hsel j oj cs b hoj) hQ hy h1
      have hfree' : ∀ k ok, ops[k]? = some ok → k ≠ i → (listed.setIfInBounds j true).getD k true = false →
          (∀ e ∈ ok.after, Region.binds md e = true → e.on ≠ i) → oi.apart ops ok = true := fun k ok hk hki hun hno => by
        refine hfree k ok hk hki ?_ hno
        by_cases hjk : j = k
        · subst hjk; exact hjun
        · rw [getD_set_ne true hjk] at hun; exact hun
      have hsame : ((listed.setIfInBounds i true).setIfInBounds j true).getD s true = (listed.setIfInBounds j true).getD s true := by
        rw [Array.setIfInBounds_comm _ _ (Ne.symm hji), getD_ne his]
      refine wpOp_mono (fun a' w' h3 => ⟨fun h => h3.2.1 (by rw [hsame]; exact h), ih (listed.setIfInBounds j true) a' w' hfree' (ready_mono hr (Ne.symm hji)) h3.1 (fun h => h3.2.1 (by rw [hsame]; exact h)) ?_⟩) h2
      rw [Array.setIfInBounds_comm _ _ hji]
      exact h3.2.2
def waits (md : Region.Mode) (ops : Array Oper) (s i : Nat) : Bool := match ops[s]? with | some o => o.after.any fun e => Region.binds md e && e.on == i | none => false
theorem waits_spec {i : Nat} (h : waits md ops s i = true) : ∃ os, ops[s]? = some os ∧ ∃ e ∈ os.after, Region.binds md e = true ∧ e.on = i := by
  unfold waits at h
  cases hs : ops[s]? with
  | none => rw [hs] at h; cases h
  | some o =>
    rw [hs] at h
    obtain ⟨e, he, hb⟩ := Array.any_eq_true'.1 h
    simp only [Bool.and_eq_true, beq_iff_eq] at hb
    exact ⟨o, rfl, e, he, hb.1, hb.2⟩
theorem takeS (i d : Nat) {oi : Oper} {v : Value} {fuel : Nat} {listed : Array Bool} {a : Act} {w : World} (hi : ops[i]? = some oi) (hd : oi.dst = some d) (his : i ≠ s) (hwt : waits md ops s i = true)
    (hs : Region.noSelect ops = true) (hf : Region.free md ops listed i = true) (hr : (Region.ready md ops listed).contains i = true) (hls : listed.getD s true = false)
    (hQ : ∀ c a w, Q (.panic c) (a.put (some d) v) w → Q (.panic c) a w) (hw : Region.wanted oi (yielded ops a.tmps) = true) (hy : ∀ w, S w → (execOp a.eval oi).run P w = .ok (.value v) w) (hS : S w)
    (h : wpAnyL P md ops Q s S fuel (listed.setIfInBounds i true) (a.put (some d) v) w) : wpAnyL P md ops Q s S (fuel + 1) listed a w := by
  rw [← hd] at hQ h
  obtain ⟨os, hos, hdep⟩ := waits_spec hwt
  exact wpAnyL_first hi (Region.noSelect_spec hs) hQ his hos hdep fuel listed a w (Region.free_spec hi hf) (by simpa using hr) (Or.inl ⟨hw, hy⟩) hls hS h
theorem takeW (i d : Nat) {oi : Oper} {v : Value} {fuel : Nat} {listed : Array Bool} {a : Act} {w : World} (hi : ops[i]? = some oi) (hd : oi.dst = some d) (his : i ≠ s)
    (hs : Region.noSelect ops = true) (hf : Region.free md ops listed i = true) (hr : (Region.ready md ops listed).contains i = true)
    (hQ : ∀ c a w, Q (.panic c) (a.put (some d) v) w → Q (.panic c) a w) (hw : Region.wanted oi (yielded ops a.tmps) = true) (hy : ∀ w, (execOp a.eval oi).run P w = .ok (.value v) w) (hS : listed.getD s true = false → S w)
    (h : wpAnyL P md ops Q s S fuel (listed.setIfInBounds i true) (a.put (some d) v) w) : wpAnyL P md ops Q s S (fuel + 1) listed a w := by
  rw [← hd] at hQ h
  exact wpAnyL_firstW hi (Region.noSelect_spec hs) hQ his fuel listed a w (Region.free_spec hi hf) (by simpa using hr) (Or.inl ⟨hw, fun w _ => hy w⟩) hS h
theorem stepL (i : Nat) {o : Oper} {fuel : Nat} {listed : Array Bool} {a : Act} {w : World} (hr : Region.ready md ops listed = [i]) (ho : ops[i]? = some o)
    (h : ∀ K' : Act → World → Prop, Shut (∀ a w, ((listed.setIfInBounds i true).getD s true = false → S w) → wpAnyL P md ops Q s S fuel (listed.setIfInBounds i true) a w → K' a w) → if Region.wanted o (yielded ops a.tmps) = true then Oper.wp P o a w K' Q else K' (a.put o.dst undef) w) :
    wpAnyL P md ops Q s S (fuel + 1) listed a w := by
  refine ⟨fun h0 => (by rw [hr] at h0; cases h0), fun j hj => ?_⟩
  rw [hr] at hj
  obtain rfl : j = i := by simpa using hj
  exact wpOp_step ho (fun K' hK => h K' (fun a w hS hW => hK a w ⟨hS, hW⟩))
theorem stepC (i : Nat) {o : Oper} {fuel : Nat} {listed : Array Bool} {a : Act} {w : World} (hr : Region.ready md ops listed = [i]) (ho : ops[i]? = some o)
    (h : ∀ K' : Act → World → Prop, Shut (∀ a w, S w → (S w → wpAnyL P md ops Q s S fuel (listed.setIfInBounds i true) a w) → K' a w) → if Region.wanted o (yielded ops a.tmps) = true then Oper.wp P o a w K' Q else K' (a.put o.dst undef) w) :
    wpAnyL P md ops Q s S (fuel + 1) listed a w :=
  stepL i hr ho (fun K' hK => h K' (fun a w hS hW => hK.out a w (fun _ => hS) (hW hS)))
theorem listed_done {l : Array Bool} {s : Nat} (h1 : l.getD s true = true) (h : l.getD s true = false) {S : Prop} : S := by rw [h1] at h; cases h
theorem stepS {o : Oper} {fuel : Nat} {listed : Array Bool} {a : Act} {w : World} (hr : Region.ready md ops listed = [s]) (ho : ops[s]? = some o) (hl : (listed.setIfInBounds s true).getD s true = true)
    (h : ∀ K' : Act → World → Prop, Shut (∀ a w, wpAnyL P md ops Q s S fuel (listed.setIfInBounds s true) a w → K' a w) → if Region.wanted o (yielded ops a.tmps) = true then Oper.wp P o a w K' Q else K' (a.put o.dst undef) w) :
    wpAnyL P md ops Q s S (fuel + 1) listed a w :=
  stepL s hr ho (fun K' hK => h K' (fun a w hW => hK.out a w (fun h => listed_done hl h) hW))
theorem doneL {listed : Array Bool} {a : Act} {w : World} (hr : Region.ready md ops listed = []) (h : Q .normal a w) : ∀ fuel, wpAnyL P md ops Q s S fuel listed a w
  | 0 => ⟨hr, h⟩
  | _ + 1 => ⟨fun _ => h, by rw [hr]; simp⟩
theorem beginL (s : Nat) (S : World → Prop) {id : Nat} {a : Act} {w : World} (hm : P.follows .mixedOrders = true) (hS : S w.drew)
    (h : S w.drew → wpAnyL P .any ops Q s S ops.size (Array.replicate ops.size false) a w.drew) : (Code.region id ops true).wp P Q a w :=
  wp_region_any hm (wpAny_of_L (s := s) (S := S) _ _ _ _ (h hS))
end Go.Proofs.YtfobfpigbfepoaaDoor
