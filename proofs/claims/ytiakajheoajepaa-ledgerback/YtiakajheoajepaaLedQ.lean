/- ledger: Find, State. -/
import Derived.Test.YtiakajheoajepaaLedL
import Derived.Test.YtiakajheoajepaaLedP
namespace Go.Proofs.Ytiakajheoajepaa
open Go.RowKit
open Led (Acc Mk)

/- a ledger in memory -/
structure LedAt (w : World) (adA : Option Addr) (adM : Option Addr) (A : List Acc) (M : List Mk) : Prop where
  a : AccsAt w adA A
  m : MksAt w adM M
  ra : ∀ x ∈ A, inA x
  rm : ∀ m ∈ M, inM m
  la : A.length ≤ 9223372036854775807
  lm : M.length ≤ 9223372036854775807
theorem LedAt.gr {w w' : World} {adA adM : Option Addr} {A : List Acc} {M : List Mk} (h : LedAt w adA adM A M) (g : Gr w w') : LedAt w' adA adM A M := ⟨h.a.gr g, h.m.gr g, h.ra, h.rm, h.la, h.lm⟩
theorem LedAt.may {w : World} {adA adM : Option Addr} {A : List Acc} {M : List Mk} (h : LedAt w adA adM A M) (capA capM : Nat) : Calls Try.prog 14 #[.agg #[.slice adA A.length capA, .slice adM M.length capM]] w fun e w' => e = .returned (.int .i64 (mayL A M)) ∧ Gr w w' :=
  may7_any A M adA capA adM capM w h.a h.m h.ra h.rm h.la h.lm

def accZ : Acc := ⟨⟨#[]⟩, 0, 0, 0, 0, 0, 0⟩
def findE (A : List Acc) (M : List Mk) (s : ByteArray) : Acc := if Led.mayB A M = true then (if Led.hasB (Led.nm A) s = true then A.getD (Led.pos (Led.nm A) s) accZ else accZ) else accZ
def findB (A : List Acc) (M : List Mk) (s : ByteArray) : Bool := Led.mayB A M && Led.hasB (Led.nm A) s
def stateE (A : List Acc) (M : List Mk) (s : ByteArray) : Int := if Led.mayB A M = true then (if Led.hasB (Led.ky M) s = true then (M[Led.pos (Led.ky M) s]?).elim 0 Mk.st else 0) else 0
theorem acc_small {A : List Acc} {M : List Mk} (h : Led.mayB A M = true) : ∀ x ∈ A, x.s.size ≤ 1000 := by
  intro x hx
  have hm := (Led.may_iff A M).1 h
  have := (Act.name_pos ((Act.acc_iff _ _ _ _ _ _ _).1 (hm.oa x hx)).1).2
  omega
theorem mk_small {A : List Acc} {M : List Mk} (h : Led.mayB A M = true) : ∀ m ∈ M, m.key.size ≤ 1000 ∧ m.t.size ≤ 1000 := by
  intro m hx
  have hm := (Led.may_iff A M).1 h
  obtain ⟨h1, h2, _⟩ := (Led.mk_iff A m).1 (hm.om m hx)
  have := (Act.name_pos ((Act.act_iff _ _ _).1 h2).2.1).2
  omega

set_option maxHeartbeats 4000000 in
set_option maxRecDepth 100000 in
theorem find7_any (A : List Acc) (M : List Mk) (s : ByteArray) (adA : Option Addr) (capA : Nat) (adM : Option Addr) (capM : Nat) (w : World) (h : LedAt w adA adM A M) :
    Calls Try.prog 10 #[.agg #[.slice adA A.length capA, .slice adM M.length capM], .string s] w fun e w' => e = .returned (.tuple #[.agg (accC (findE A M s)).toArray, .bool (findB A M s)]) ∧ Gr w w' := by
  have HM : Hid (∀ w', Gr w w' → Calls Try.prog 14 #[.agg #[.slice adA A.length capA, .slice adM M.length capM]] w' fun e w2 => e = .returned (.int .i64 (mayL A M)) ∧ Gr w' w2) := fun w' g => (h.gr g).may capA capM
  have HL : Hid (AccsAt w adA A) := h.a
  have hmf : ∀ (fn : Fn) (first cap : Array Value) (w : World), (Instr.makeFunc fn first cap).run Try.prog w = .ok (.func fn first cap) w := fun _ _ _ _ => rfl
  unfold findE findB
  cases hm : Led.mayB A M with
  | false =>
    rw [mayL_no hm] at HM
    clear h hm
    go_enter Try.func10, Try.ntmps10
    go_wp2_with fail
    refine (HM.out _ ((Gr.refl _).alloc.alloc)).mono ?_
    rintro e w1 ⟨rfl, hg1⟩
    have X := (AccAt.new (w.alloc (.cells #[.slice adA A.length capA, .slice adM M.length capM] 25)) (.string ⟨#[]⟩) (.int .i64 0) (.int .i64 0) (.int .i64 0) (.int .i64 0) (.int .i64 0) (.int .i64 0) 31 (w.heap.size + 1) (by simp)).gr hg1
    have g1 : Gr w w1 := (by repeat (first | exact Gr.refl _ | refine Gr.alloc ?_ | refine Gr.drew ?_ | refine Gr.trans ?_ (by assumption)))
    obtain ⟨c0, c1, c2, c3, c4, c5, c6⟩ := X.cells
    obtain ⟨f0, f1, f2, f3, f4, f5, f6⟩ := X.frozens
    have rl := X.lt
    clear X hg1
    go_wp2
    exact bodyPost_ret (v := .tuple #[.agg #[.string ⟨#[]⟩, .int .i64 0, .int .i64 0, .int .i64 0, .int .i64 0, .int .i64 0, .int .i64 0], .bool false]) (by simp [results, Try.results10, go_sem, *]) rfl ⟨rfl, g1.set7 _ (by omega) _ _ _ _ _ _ _⟩
  | true =>
    rw [mayL_yes hm] at HM
    have hM := (Led.may_iff A M).1 hm
    have HF : Hid (∀ w', Gr w w' → Calls Try.prog 30 #[.slice adA A.length capA, .string s] w' fun e w2 => e = .returned (.tuple #[.int .i64 (Led.pos (Led.nm A) s : Nat), .bool (Led.hasB (Led.nm A) s)]) ∧ Gr w' w2) := fun w' g => findA_any A s adA capA w' (h.a.gr g) hM.ua (by have := hM.la; omega)
    simp only [if_true, Bool.true_and]
    cases hb : Led.hasB (Led.nm A) s with
    | false =>
      rw [hb] at HF
      generalize Led.pos (Led.nm A) s = p at *
      clear h hm hM hb
      go_enter Try.func10, Try.ntmps10
      go_wp2_with fail
      refine (HM.out _ ((Gr.refl _).alloc.alloc)).mono ?_
      rintro e w1 ⟨rfl, hg1⟩
      have X := (AccAt.new (w.alloc (.cells #[.slice adA A.length capA, .slice adM M.length capM] 25)) (.string ⟨#[]⟩) (.int .i64 0) (.int .i64 0) (.int .i64 0) (.int .i64 0) (.int .i64 0) (.int .i64 0) 31 (w.heap.size + 1) (by simp)).gr hg1
      have B := ((TwoAt.new w (.slice adA A.length capA) (.slice adM M.length capM) 25 _ rfl).gr (Gr.refl _).alloc).gr hg1
      obtain ⟨b0, b1, _, _, bl⟩ := B
      have g1 : Gr w w1 := (by repeat (first | exact Gr.refl _ | refine Gr.alloc ?_ | refine Gr.drew ?_ | refine Gr.trans ?_ (by assumption)))
      have HX : Hid (AccAt w1 (w.heap.size + 1) (.string ⟨#[]⟩) (.int .i64 0) (.int .i64 0) (.int .i64 0) (.int .i64 0) (.int .i64 0) (.int .i64 0)) := X
      clear X hg1
      go_wp2_with fail
      refine (HF.out _ g1).mono ?_
      rintro e w2 ⟨rfl, hg2⟩
      have X := HX.out.gr hg2
      have g2 : Gr w w2 := g1.trans hg2
      obtain ⟨c0, c1, c2, c3, c4, c5, c6⟩ := X.cells
      obtain ⟨f0, f1, f2, f3, f4, f5, f6⟩ := X.frozens
      have rl := X.lt
      clear X hg2 b0 b1 bl HX g1
      go_wp2
      exact bodyPost_ret (v := .tuple #[.agg #[.string ⟨#[]⟩, .int .i64 0, .int .i64 0, .int .i64 0, .int .i64 0, .int .i64 0, .int .i64 0], .bool false]) (by simp [results, Try.results10, go_sem, *]) rfl ⟨rfl, g2.set7 _ (by omega) _ _ _ _ _ _ _⟩
    | true =>
      rw [hb] at HF
      obtain ⟨hp, _⟩ := Led.pos_mem hM.ua ((Led.has_iff _ _).1 hb)
      rw [Led.nm_len] at hp
      have HC : Hid (∀ w', Calls Try.prog 31 #[.string (A.getD (Led.pos (Led.nm A) s) accZ).s] w' fun e w2 => e = .returned (.string (A.getD (Led.pos (Led.nm A) s) accZ).s) ∧ Gr w' w2) := fun w' => clone_any _ w' (by
        have := acc_small hm A[Led.pos (Led.nm A) s] (List.getElem_mem hp)
        rw [List.getD_eq_getElem?_getD, List.getElem?_eq_getElem hp]
        simp only [Option.getD_some]; omega)
      have hgd : A.getD (Led.pos (Led.nm A) s) accZ = A[Led.pos (Led.nm A) s] := by rw [List.getD_eq_getElem?_getD, List.getElem?_eq_getElem hp]; rfl
      obtain ⟨b, off, had, hbw, d0, d1, d2, d3, d4, d5, d6⟩ := (AccsAt.at HL.out (Led.pos (Led.nm A) s) hp)
      simp only [if_true]
      rw [← hgd] at d0 d1 d2 d3 d4 d5 d6
      generalize A.getD (Led.pos (Led.nm A) s) accZ = x at *
      generalize Led.pos (Led.nm A) s = p at *
      subst had
      have hpi : (p : Int) < (A.length : Int) := by omega
      clear h hm hM hb hgd
      go_enter Try.func10, Try.ntmps10
      go_wp2_with fail
      refine (HM.out _ ((Gr.refl _).alloc.alloc)).mono ?_
      rintro e w1 ⟨rfl, hg1⟩
      have X := (AccAt.new (w.alloc (.cells #[.slice (some ⟨b, off, none⟩) A.length capA, .slice adM M.length capM] 25)) (.string ⟨#[]⟩) (.int .i64 0) (.int .i64 0) (.int .i64 0) (.int .i64 0) (.int .i64 0) (.int .i64 0) 31 (w.heap.size + 1) (by simp)).gr hg1
      have B := ((TwoAt.new w (.slice (some ⟨b, off, none⟩) A.length capA) (.slice adM M.length capM) 25 _ rfl).gr (Gr.refl _).alloc).gr hg1
      have HB : Hid (TwoAt w1 w.heap.size (.slice (some ⟨b, off, none⟩) A.length capA) (.slice adM M.length capM)) := B
      obtain ⟨b0, b1, _, _, bl⟩ := B
      have g1 : Gr w w1 := (by repeat (first | exact Gr.refl _ | refine Gr.alloc ?_ | refine Gr.drew ?_ | refine Gr.trans ?_ (by assumption)))
      have HX : Hid (AccAt w1 (w.heap.size + 1) (.string ⟨#[]⟩) (.int .i64 0) (.int .i64 0) (.int .i64 0) (.int .i64 0) (.int .i64 0) (.int .i64 0)) := X
      clear X hg1
      go_wp2_with fail
      refine (HF.out _ g1).mono ?_
      rintro e w2 ⟨rfl, hg2⟩
      have HX2 : Hid (AccAt w2 (w.heap.size + 1) (.string ⟨#[]⟩) (.int .i64 0) (.int .i64 0) (.int .i64 0) (.int .i64 0) (.int .i64 0) (.int .i64 0)) := HX.out.gr hg2
      have g2 : Gr w w2 := g1.trans hg2
      have e0 := g2.keep d0
      have e1 := g2.keep d1
      have e2 := g2.keep d2
      have e3 := g2.keep d3
      have e4 := g2.keep d4
      have e5 := g2.keep d5
      have e6 := g2.keep d6
      obtain ⟨b0, b1, _, _, bl⟩ := HB.out.gr hg2
      have hbw2 : b < w2.heap.size := Nat.lt_of_lt_of_le hbw g2.size
      clear hg2 HX g1 HB d0 d1 d2 d3 d4 d5 d6
      go_wp2_with fail
      refine (HC.out _).mono ?_
      rintro e w3 ⟨rfl, hg3⟩
      have g3 : Gr w w3 := g2.alloc.trans hg3
      have Y := (AccAt.new w2 (.string x.s) (.int .i64 x.a) (.int .i64 x.b) (.int .i64 x.c) (.int .i64 x.x) (.int .i64 x.y) (.int .i64 x.z) 31 _ rfl).gr hg3
      have X := HX2.out.gr ((Gr.refl w2).alloc.trans hg3)
      have hyx : w.heap.size + 1 < w2.heap.size := HX2.out.lt
      obtain ⟨c0, c1, c2, c3, c4, c5, c6⟩ := X.cells
      obtain ⟨f0, f1, f2, f3, f4, f5, f6⟩ := X.frozens
      obtain ⟨y0, y1, y2, y3, y4, y5, y6⟩ := Y.cells
      obtain ⟨q0, q1, q2, q3, q4, q5, q6⟩ := Y.frozens
      have rl := X.lt
      have yl := Y.lt
      clear X Y hg3 b0 b1 bl e0 e1 e2 e3 e4 e5 e6 HX2
      go_wp2
      exact bodyPost_ret (v := .tuple #[.agg #[.string x.s, .int .i64 x.a, .int .i64 x.b, .int .i64 x.c, .int .i64 x.x, .int .i64 x.y, .int .i64 x.z], .bool true]) (by simp [results, Try.results10, go_sem, *]) rfl ⟨rfl, (by (repeat' (first | with_reducible exact Gr.refl _ | with_reducible refine Gr.set ?_ _ ?_ _ | with_reducible refine Gr.alloc ?_ | with_reducible refine Gr.drew ?_ | with_reducible refine Gr.trans ?_ (by assumption))) <;> (first | (simp; done) | (simp; omega) | omega))⟩
end Go.Proofs.Ytiakajheoajepaa
