/- The document's Find and State. -/
import Derived.Test.YtjkaegpgjphlcaaRefLM
import Derived.Test.YtjkaegpgjphlcaaLedR
namespace Go.Proofs.Ytjkaegpgjphlcaa
open Go.RowKit
open Led (Acc Mk)

set_option maxHeartbeats 4000000 in
set_option maxRecDepth 100000 in
theorem refFind7_any (A : List Acc) (M : List Mk) (s : ByteArray) (adA : Option Addr) (capA : Nat) (adM : Option Addr) (capM : Nat) (w : World) (h : LedAt w adA adM A M) :
    Calls Try.prog 11 #[.agg #[.slice adA A.length capA, .slice adM M.length capM], .string s] w fun e w' => e = .returned (.tuple #[.agg (accC (findE A M s)).toArray, .bool (findB A M s)]) ∧ Gr w w' := by
  have HM : Hid (∀ w', Gr w w' → Calls Try.prog 15 #[.agg #[.slice adA A.length capA, .slice adM M.length capM]] w' fun e w2 => e = .returned (.int .i64 (mayL A M)) ∧ Gr w' w2) := fun w' g => refMay7_any A M adA capA adM capM w' (h.gr g)
  have HI : Hid (∀ w', Gr w w' → Calls Try.prog 32 #[.agg #[.slice adA A.length capA, .slice adM M.length capM], .string s] w' fun e w2 => e = .returned (.int .i64 (firstI (Led.nm A) s)) ∧ Gr w' w2) := fun w' g => refAcc_any A M s adA capA adM capM w' (h.a.gr g) h.la
  have HL : Hid (AccsAt w adA A) := h.a
  unfold findE findB
  cases hm : Led.mayB A M with
  | false =>
    rw [mayL_no hm] at HM
    generalize firstI (Led.nm A) s = fi at *
    clear h hm
    go_enter Try.func11, Try.ntmps11
    go_wp2_with fail
    refine (HI.out _ ((Gr.refl _).alloc.alloc)).mono ?_
    rintro e w1 ⟨rfl, hg1⟩
    have HX1 : Hid (AccAt w1 (w.heap.size + 1) (.string ⟨#[]⟩) (.int .i64 0) (.int .i64 0) (.int .i64 0) (.int .i64 0) (.int .i64 0) (.int .i64 0)) := (AccAt.new (w.alloc _) (.string ⟨#[]⟩) (.int .i64 0) (.int .i64 0) (.int .i64 0) (.int .i64 0) (.int .i64 0) (.int .i64 0) 31 (w.heap.size + 1) (by simp)).gr hg1
    have HB1 : Hid (TwoAt w1 w.heap.size (.slice adA A.length capA) (.slice adM M.length capM)) := ((TwoAt.new w _ _ _ _ rfl).gr (Gr.refl _).alloc).gr hg1
    have g1 : Gr w w1 := (by repeat (first | exact Gr.refl _ | refine Gr.alloc ?_ | refine Gr.drew ?_ | refine Gr.trans ?_ (by assumption)))
    obtain ⟨b0, b1, _, _, bl⟩ := HB1.out
    clear hg1
    go_wp2_with fail
    refine (HM.out _ g1).mono ?_
    rintro e w2 ⟨rfl, hg2⟩
    have X := HX1.out.gr hg2
    have HB2 : Hid (TwoAt w2 w.heap.size (.slice adA A.length capA) (.slice adM M.length capM)) := HB1.out.gr hg2
    have g2 : Gr w w2 := g1.trans hg2
    obtain ⟨c0, c1, c2, c3, c4, c5, c6⟩ := X.cells
    obtain ⟨f0, f1, f2, f3, f4, f5, f6⟩ := X.frozens
    have rl := X.lt
    clear X hg2 b0 b1 bl HX1 HB1 g1
    obtain ⟨b0, b1, _, _, bl⟩ := HB2.out
    go_wp2
    exact bodyPost_ret (v := .tuple #[.agg #[.string ⟨#[]⟩, .int .i64 0, .int .i64 0, .int .i64 0, .int .i64 0, .int .i64 0, .int .i64 0], .bool false]) (by simp [results, Try.results11, go_sem, *]) rfl ⟨rfl, g2.set7 _ (by omega) _ _ _ _ _ _ _⟩
  | true =>
    rw [mayL_yes hm] at HM
    have hM := (Led.may_iff A M).1 hm
    simp only [if_true, Bool.true_and]
    cases hb : Led.hasB (Led.nm A) s with
    | false =>
      rw [first_neg hb] at HI
      clear h hm hM hb
      go_enter Try.func11, Try.ntmps11
      go_wp2_with fail
      refine (HI.out _ ((Gr.refl _).alloc.alloc)).mono ?_
      rintro e w1 ⟨rfl, hg1⟩
      have HX1 : Hid (AccAt w1 (w.heap.size + 1) (.string ⟨#[]⟩) (.int .i64 0) (.int .i64 0) (.int .i64 0) (.int .i64 0) (.int .i64 0) (.int .i64 0)) := (AccAt.new (w.alloc _) (.string ⟨#[]⟩) (.int .i64 0) (.int .i64 0) (.int .i64 0) (.int .i64 0) (.int .i64 0) (.int .i64 0) 31 (w.heap.size + 1) (by simp)).gr hg1
      have HB1 : Hid (TwoAt w1 w.heap.size (.slice adA A.length capA) (.slice adM M.length capM)) := ((TwoAt.new w _ _ _ _ rfl).gr (Gr.refl _).alloc).gr hg1
      have g1 : Gr w w1 := (by repeat (first | exact Gr.refl _ | refine Gr.alloc ?_ | refine Gr.drew ?_ | refine Gr.trans ?_ (by assumption)))
      obtain ⟨b0, b1, _, _, bl⟩ := HB1.out
      clear hg1
      go_wp2_with fail
      refine (HM.out _ g1).mono ?_
      rintro e w2 ⟨rfl, hg2⟩
      have X := HX1.out.gr hg2
      have HB2 : Hid (TwoAt w2 w.heap.size (.slice adA A.length capA) (.slice adM M.length capM)) := HB1.out.gr hg2
      have g2 : Gr w w2 := g1.trans hg2
      obtain ⟨c0, c1, c2, c3, c4, c5, c6⟩ := X.cells
      obtain ⟨f0, f1, f2, f3, f4, f5, f6⟩ := X.frozens
      have rl := X.lt
      clear X hg2 b0 b1 bl HX1 HB1 g1
      obtain ⟨b0, b1, _, _, bl⟩ := HB2.out
      go_wp2
      exact bodyPost_ret (v := .tuple #[.agg #[.string ⟨#[]⟩, .int .i64 0, .int .i64 0, .int .i64 0, .int .i64 0, .int .i64 0, .int .i64 0], .bool false]) (by simp [results, Try.results11, go_sem, *]) rfl ⟨rfl, g2.set7 _ (by omega) _ _ _ _ _ _ _⟩
    | true =>
      rw [first_pos hM.ua hb] at HI
      obtain ⟨hp, _⟩ := Led.pos_mem hM.ua ((Led.has_iff _ _).1 hb)
      rw [Led.nm_len] at hp
      have hgd : A.getD (Led.pos (Led.nm A) s) accZ = A[Led.pos (Led.nm A) s] := by rw [List.getD_eq_getElem?_getD, List.getElem?_eq_getElem hp]; rfl
      obtain ⟨b, off, had, hbw, d0, d1, d2, d3, d4, d5, d6⟩ := (AccsAt.at HL.out (Led.pos (Led.nm A) s) hp)
      simp only [if_true]
      rw [← hgd] at d0 d1 d2 d3 d4 d5 d6
      generalize A.getD (Led.pos (Led.nm A) s) accZ = x at *
      generalize Led.pos (Led.nm A) s = p at *
      subst had
      have hpi : (p : Int) < (A.length : Int) := by omega
      have hpn : ¬ ((p : Nat) : Int) < 0 := by omega
      clear h hm hM hb hgd
      go_enter Try.func11, Try.ntmps11
      go_wp2_with fail
      refine (HI.out _ ((Gr.refl _).alloc.alloc)).mono ?_
      rintro e w1 ⟨rfl, hg1⟩
      have HX1 : Hid (AccAt w1 (w.heap.size + 1) (.string ⟨#[]⟩) (.int .i64 0) (.int .i64 0) (.int .i64 0) (.int .i64 0) (.int .i64 0) (.int .i64 0)) := (AccAt.new (w.alloc _) (.string ⟨#[]⟩) (.int .i64 0) (.int .i64 0) (.int .i64 0) (.int .i64 0) (.int .i64 0) (.int .i64 0) 31 (w.heap.size + 1) (by simp)).gr hg1
      have HB1 : Hid (TwoAt w1 w.heap.size (.slice (some ⟨b, off, none⟩) A.length capA) (.slice adM M.length capM)) := ((TwoAt.new w _ _ _ _ rfl).gr (Gr.refl _).alloc).gr hg1
      have g1 : Gr w w1 := (by repeat (first | exact Gr.refl _ | refine Gr.alloc ?_ | refine Gr.drew ?_ | refine Gr.trans ?_ (by assumption)))
      obtain ⟨b0, b1, _, _, bl⟩ := HB1.out
      clear hg1
      go_wp2_with fail
      refine (HM.out _ g1).mono ?_
      rintro e w2 ⟨rfl, hg2⟩
      have X := HX1.out.gr hg2
      have HB2 : Hid (TwoAt w2 w.heap.size (.slice (some ⟨b, off, none⟩) A.length capA) (.slice adM M.length capM)) := HB1.out.gr hg2
      have g2 : Gr w w2 := g1.trans hg2
      obtain ⟨c0, c1, c2, c3, c4, c5, c6⟩ := X.cells
      obtain ⟨f0, f1, f2, f3, f4, f5, f6⟩ := X.frozens
      have rl := X.lt
      clear X hg2 b0 b1 bl HX1 HB1 g1
      obtain ⟨b0, b1, _, _, bl⟩ := HB2.out
      have e0 := g2.keep d0
      have e1 := g2.keep d1
      have e2 := g2.keep d2
      have e3 := g2.keep d3
      have e4 := g2.keep d4
      have e5 := g2.keep d5
      have e6 := g2.keep d6
      have hb2 : b < w2.heap.size := Nat.lt_of_lt_of_le hbw g2.size
      clear d0 d1 d2 d3 d4 d5 d6
      go_wp2
      exact bodyPost_ret (v := .tuple #[.agg #[.string x.s, .int .i64 x.a, .int .i64 x.b, .int .i64 x.c, .int .i64 x.x, .int .i64 x.y, .int .i64 x.z], .bool true]) (by simp [results, Try.results11, go_sem, *]) rfl ⟨rfl, g2.set7 _ (by omega) _ _ _ _ _ _ _⟩

set_option maxHeartbeats 4000000 in
set_option maxRecDepth 100000 in
theorem refState7_any (A : List Acc) (M : List Mk) (s : ByteArray) (adA : Option Addr) (capA : Nat) (adM : Option Addr) (capM : Nat) (w : World) (h : LedAt w adA adM A M) :
    Calls Try.prog 17 #[.agg #[.slice adA A.length capA, .slice adM M.length capM], .string s] w fun e w' => e = .returned (.int .i64 (stateE A M s)) ∧ Gr w w' := by
  have HM : Hid (∀ w', Gr w w' → Calls Try.prog 15 #[.agg #[.slice adA A.length capA, .slice adM M.length capM]] w' fun e w2 => e = .returned (.int .i64 (mayL A M)) ∧ Gr w' w2) := fun w' g => refMay7_any A M adA capA adM capM w' (h.gr g)
  have HI : Hid (∀ w', Gr w w' → Calls Try.prog 48 #[.agg #[.slice adA A.length capA, .slice adM M.length capM], .string s] w' fun e w2 => e = .returned (.int .i64 (firstI (Led.ky M) s)) ∧ Gr w' w2) := fun w' g => refMk_any A M s adA capA adM capM w' (h.m.gr g) h.lm
  have HL : Hid (MksAt w adM M) := h.m
  unfold stateE
  cases hm : Led.mayB A M with
  | false =>
    rw [mayL_no hm] at HM
    generalize firstI (Led.ky M) s = fi at *
    clear h hm
    go_enter Try.func17, Try.ntmps17
    go_wp2_with fail
    refine (HI.out _ ((Gr.refl _).alloc)).mono ?_
    rintro e w1 ⟨rfl, hg1⟩
    have HB1 : Hid (TwoAt w1 w.heap.size (.slice adA A.length capA) (.slice adM M.length capM)) := (TwoAt.new w _ _ _ _ rfl).gr hg1
    have g1 : Gr w w1 := (by repeat (first | exact Gr.refl _ | refine Gr.alloc ?_ | refine Gr.drew ?_ | refine Gr.trans ?_ (by assumption)))
    obtain ⟨b0, b1, _, _, bl⟩ := HB1.out
    clear hg1
    go_wp2_with fail
    refine (HM.out _ g1).mono ?_
    rintro e w2 ⟨rfl, hg2⟩
    have HB2 : Hid (TwoAt w2 w.heap.size (.slice adA A.length capA) (.slice adM M.length capM)) := HB1.out.gr hg2
    have g2 : Gr w w2 := g1.trans hg2
    clear hg2 b0 b1 bl HB1 g1
    obtain ⟨b0, b1, _, _, bl⟩ := HB2.out
    go_wp2
    go_ret
    exact ⟨rfl, g2⟩
  | true =>
    rw [mayL_yes hm] at HM
    have hM := (Led.may_iff A M).1 hm
    simp only [if_true]
    cases hb : Led.hasB (Led.ky M) s with
    | false =>
      rw [first_neg hb] at HI
      clear h hm hM hb
      go_enter Try.func17, Try.ntmps17
      go_wp2_with fail
      refine (HI.out _ ((Gr.refl _).alloc)).mono ?_
      rintro e w1 ⟨rfl, hg1⟩
      have HB1 : Hid (TwoAt w1 w.heap.size (.slice adA A.length capA) (.slice adM M.length capM)) := (TwoAt.new w _ _ _ _ rfl).gr hg1
      have g1 : Gr w w1 := (by repeat (first | exact Gr.refl _ | refine Gr.alloc ?_ | refine Gr.drew ?_ | refine Gr.trans ?_ (by assumption)))
      obtain ⟨b0, b1, _, _, bl⟩ := HB1.out
      clear hg1
      go_wp2_with fail
      refine (HM.out _ g1).mono ?_
      rintro e w2 ⟨rfl, hg2⟩
      have HB2 : Hid (TwoAt w2 w.heap.size (.slice adA A.length capA) (.slice adM M.length capM)) := HB1.out.gr hg2
      have g2 : Gr w w2 := g1.trans hg2
      clear hg2 b0 b1 bl HB1 g1
      obtain ⟨b0, b1, _, _, bl⟩ := HB2.out
      go_wp2
      go_ret
      exact ⟨rfl, g2⟩
    | true =>
      rw [first_pos hM.um hb] at HI
      obtain ⟨hp, _⟩ := Led.pos_mem hM.um ((Led.has_iff _ _).1 hb)
      rw [Led.ky_len] at hp
      have hge : (M[Led.pos (Led.ky M) s]?).elim 0 Mk.st = M[Led.pos (Led.ky M) s].st := by rw [List.getElem?_eq_getElem hp]; rfl
      obtain ⟨b, off, had, hbw, d0, d1, d2, d3, d4⟩ := (MksAt.at HL.out (Led.pos (Led.ky M) s) hp)
      simp only [if_true]
      rw [hge]
      generalize M[Led.pos (Led.ky M) s] = x at *
      generalize Led.pos (Led.ky M) s = p at *
      subst had
      have hpi : (p : Int) < (M.length : Int) := by omega
      have hpn : ¬ ((p : Nat) : Int) < 0 := by omega
      clear h hm hM hb hge
      go_enter Try.func17, Try.ntmps17
      go_wp2_with fail
      refine (HI.out _ ((Gr.refl _).alloc)).mono ?_
      rintro e w1 ⟨rfl, hg1⟩
      have HB1 : Hid (TwoAt w1 w.heap.size (.slice adA A.length capA) (.slice (some ⟨b, off, none⟩) M.length capM)) := (TwoAt.new w _ _ _ _ rfl).gr hg1
      have g1 : Gr w w1 := (by repeat (first | exact Gr.refl _ | refine Gr.alloc ?_ | refine Gr.drew ?_ | refine Gr.trans ?_ (by assumption)))
      obtain ⟨b0, b1, _, _, bl⟩ := HB1.out
      clear hg1
      go_wp2_with fail
      refine (HM.out _ g1).mono ?_
      rintro e w2 ⟨rfl, hg2⟩
      have HB2 : Hid (TwoAt w2 w.heap.size (.slice adA A.length capA) (.slice (some ⟨b, off, none⟩) M.length capM)) := HB1.out.gr hg2
      have g2 : Gr w w2 := g1.trans hg2
      clear hg2 b0 b1 bl HB1 g1
      obtain ⟨b0, b1, _, _, bl⟩ := HB2.out
      have e4 := g2.keep d4
      have hb2 : b < w2.heap.size := Nat.lt_of_lt_of_le hbw g2.size
      clear d0 d1 d2 d3 d4
      go_wp2
      go_ret
      exact ⟨rfl, g2⟩
end Go.Proofs.Ytjkaegpgjphlcaa
