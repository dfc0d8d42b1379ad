/- What the proof is made of, part 21. -/
import Derived.Test.YtgidkmipecfjhaaTLLMays20
import Derived.Laws.Externs
namespace Go.Proofs.Ytgidkmipecfjhaa
open Go.RowKit
open Led (Acc Mk)
set_option maxHeartbeats 4000000 in
set_option maxRecDepth 100000 in
theorem refFind7_any (A : List Acc) (M : List Mk) (s : ByteArray) (adA : Option Addr) (capA : Nat) (adM : Option Addr) (capM : Nat) (w : World) (h : LedAt w adA adM A M) :
    Calls Try.prog 11 #[.agg #[.slice adA A.length capA, .slice adM M.length capM], .string s] w fun e w' => e = .returned (.tuple #[.agg (accC (findE A M s)).toArray, .bool (findB A M s)]) ∧ Gr w w' := by
  have HM : Hid (∀ w', Gr w w' → Calls Try.prog 15 #[.agg #[.slice adA A.length capA, .slice adM M.length capM]] w' fun e w2 => e = .returned (.int .i64 (mayL A M)) ∧ Gr w' w2) := fun w' g => refMay7_any A M adA capA adM capM w' (h.gr g)
  have HI : Hid (∀ w', Gr w w' → Calls Try.prog 32 #[.agg #[.slice adA A.length capA, .slice adM M.length capM], .string s] w' fun e w2 => e = .returned (.int .i64 (firstI (Led.nm A) s)) ∧ Gr w' w2) := fun w' g => refAcc_any A M s adA capA adM capM w' (h.a.gr g) h.la
  have HL : Hid (AccsAt w adA A) := h.a
  unfold findE findB
  cases hm : Led.mayB A M with
  | false =>
    rw [mayL_no hm] at HM
    generalize firstI (Led.nm A) s = fi at *
    clear h hm
    go_enter Try.func11, Try.ntmps11
    go_wp2_with fail
    refine (HI.out _ ((Gr.refl _).alloc.alloc)).mono ?_
    rintro e w1 ⟨rfl, hg1⟩
    have HX1 : Hid (AccAt w1 (w.heap.size + 1) (.string ⟨#[]⟩) (.int .i64 0) (.int .i64 0) (.int .i64 0) (.int .i64 0) (.int .i64 0) (.int .i64 0)) := (AccAt.new (w.alloc _) (.string ⟨#[]⟩) (.int .i64 0) (.int .i64 0) (.int .i64 0) (.int .i64 0) (.int .i64 0) (.int .i64 0) 31 (w.heap.size + 1) (by simp)).gr hg1
    have HB1 : Hid (TwoAt w1 w.heap.size (.slice adA A.length capA) (.slice adM M.length capM)) := ((TwoAt.new w _ _ _ _ rfl).gr (Gr.refl _).alloc).gr hg1
    have g1 : Gr w w1 := (by repeat (first | exact Gr.refl _ | refine Gr.alloc ?_ | refine Gr.drew ?_ | refine Gr.trans ?_ (by assumption)))
    obtain ⟨b0, b1, _, _, bl⟩ := HB1.out
    clear hg1
    go_wp2_with fail
    refine (HM.out _ g1).mono ?_
    rintro e w2 ⟨rfl, hg2⟩
    have X := HX1.out.gr hg2
    have HB2 : Hid (TwoAt w2 w.heap.size (.slice adA A.length capA) (.slice adM M.length capM)) := HB1.out.gr hg2
    have g2 : Gr w w2 := g1.trans hg2
    obtain ⟨c0, c1, c2, c3, c4, c5, c6⟩ := X.cells
    obtain ⟨f0, f1, f2, f3, f4, f5, f6⟩ := X.frozens
    have rl := X.lt
    clear X hg2 b0 b1 bl HX1 HB1 g1
    obtain ⟨b0, b1, _, _, bl⟩ := HB2.out
    go_wp2
    exact bodyPost_ret (v := .tuple #[.agg #[.string ⟨#[]⟩, .int .i64 0, .int .i64 0, .int .i64 0, .int .i64 0, .int .i64 0, .int .i64 0], .bool false]) (by simp [results, Try.results11, go_sem, *]) rfl ⟨rfl, g2.set7 _ (by omega) _ _ _ _ _ _ _⟩
  | true =>
    rw [mayL_yes hm] at HM
    have hM := (Led.may_iff A M).1 hm
    simp only [if_true, Bool.true_and]
    cases hb : Led.hasB (Led.nm A) s with
    | false =>
      rw [first_neg hb] at HI
      clear h hm hM hb
      go_enter Try.func11, Try.ntmps11
      go_wp2_with fail
      refine (HI.out _ ((Gr.refl _).alloc.alloc)).mono ?_
      rintro e w1 ⟨rfl, hg1⟩
      have HX1 : Hid (AccAt w1 (w.heap.size + 1) (.string ⟨#[]⟩) (.int .i64 0) (.int .i64 0) (.int .i64 0) (.int .i64 0) (.int .i64 0) (.int .i64 0)) := (AccAt.new (w.alloc _) (.string ⟨#[]⟩) (.int .i64 0) (.int .i64 0) (.int .i64 0) (.int .i64 0) (.int .i64 0) (.int .i64 0) 31 (w.heap.size + 1) (by simp)).gr hg1
      have HB1 : Hid (TwoAt w1 w.heap.size (.slice adA A.length capA) (.slice adM M.length capM)) := ((TwoAt.new w _ _ _ _ rfl).gr (Gr.refl _).alloc).gr hg1
      have g1 : Gr w w1 := (by repeat (first | exact Gr.refl _ | refine Gr.alloc ?_ | refine Gr.drew ?_ | refine Gr.trans ?_ (by assumption)))
      obtain ⟨b0, b1, _, _, bl⟩ := HB1.out
      clear hg1
      go_wp2_with fail
      refine (HM.out _ g1).mono ?_
      rintro e w2 ⟨rfl, hg2⟩
      have X := HX1.out.gr hg2
      have HB2 : Hid (TwoAt w2 w.heap.size (.slice adA A.length capA) (.slice adM M.length capM)) := HB1.out.gr hg2
      have g2 : Gr w w2 := g1.trans hg2
      obtain ⟨c0, c1, c2, c3, c4, c5, c6⟩ := X.cells
      obtain ⟨f0, f1, f2, f3, f4, f5, f6⟩ := X.frozens
      have rl := X.lt
      clear X hg2 b0 b1 bl HX1 HB1 g1
      obtain ⟨b0, b1, _, _, bl⟩ := HB2.out
      go_wp2
      exact bodyPost_ret (v := .tuple #[.agg #[.string ⟨#[]⟩, .int .i64 0, .int .i64 0, .int .i64 0, .int .i64 0, .int .i64 0, .int .i64 0], .bool false]) (by simp [results, Try.results11, go_sem, *]) rfl ⟨rfl, g2.set7 _ (by omega) _ _ _ _ _ _ _⟩
    | true =>
      rw [first_pos hM.ua hb] at HI
      obtain ⟨hp, _⟩ := Led.pos_mem hM.ua ((Led.has_iff _ _).1 hb)
      rw [Led.nm_len] at hp
      have hgd : A.getD (Led.pos (Led.nm A) s) accZ = A[Led.pos (Led.nm A) s] := by rw [List.getD_eq_getElem?_getD, List.getElem?_eq_getElem hp]; rfl
      obtain ⟨b, off, had, hbw, d0, d1, d2, d3, d4, d5, d6⟩ := (AccsAt.at HL.out (Led.pos (Led.nm A) s) hp)
      simp only [if_true]
      rw [← hgd] at d0 d1 d2 d3 d4 d5 d6
      generalize A.getD (Led.pos (Led.nm A) s) accZ = x at *
      generalize Led.pos (Led.nm A) s = p at *
      subst had
      have hpi : (p : Int) < (A.length : Int) := by omega
      have hpn : ¬ ((p : Nat) : Int) < 0 := by omega
      clear h hm hM hb hgd
      go_enter Try.func11, Try.ntmps11
      go_wp2_with fail
      refine (HI.out _ ((Gr.refl _).alloc.alloc)).mono ?_
      rintro e w1 ⟨rfl, hg1⟩
      have HX1 : Hid (AccAt w1 (w.heap.size + 1) (.string ⟨#[]⟩) (.int .i64 0) (.int .i64 0) (.int .i64 0) (.int .i64 0) (.int .i64 0) (.int .i64 0)) := (AccAt.new (w.alloc _) (.string ⟨#[]⟩) (.int .i64 0) (.int .i64 0) (.int .i64 0) (.int .i64 0) (.int .i64 0) (.int .i64 0) 31 (w.heap.size + 1) (by simp)).gr hg1
      have HB1 : Hid (TwoAt w1 w.heap.size (.slice (some ⟨b, off, none⟩) A.length capA) (.slice adM M.length capM)) := ((TwoAt.new w _ _ _ _ rfl).gr (Gr.refl _).alloc).gr hg1
      have g1 : Gr w w1 := (by repeat (first | exact Gr.refl _ | refine Gr.alloc ?_ | refine Gr.drew ?_ | refine Gr.trans ?_ (by assumption)))
      obtain ⟨b0, b1, _, _, bl⟩ := HB1.out
      clear hg1
      go_wp2_with fail
      refine (HM.out _ g1).mono ?_
      rintro e w2 ⟨rfl, hg2⟩
      have X := HX1.out.gr hg2
      have HB2 : Hid (TwoAt w2 w.heap.size (.slice (some ⟨b, off, none⟩) A.length capA) (.slice adM M.length capM)) := HB1.out.gr hg2
      have g2 : Gr w w2 := g1.trans hg2
      obtain ⟨c0, c1, c2, c3, c4, c5, c6⟩ := X.cells
      obtain ⟨f0, f1, f2, f3, f4, f5, f6⟩ := X.frozens
      have rl := X.lt
      clear X hg2 b0 b1 bl HX1 HB1 g1
      obtain ⟨b0, b1, _, _, bl⟩ := HB2.out
      have e0 := g2.keep d0
      have e1 := g2.keep d1
      have e2 := g2.keep d2
      have e3 := g2.keep d3
      have e4 := g2.keep d4
      have e5 := g2.keep d5
      have e6 := g2.keep d6
      have hb2 : b < w2.heap.size := Nat.lt_of_lt_of_le hbw g2.size
      clear d0 d1 d2 d3 d4 d5 d6
      go_wp2
      exact bodyPost_ret (v := .tuple #[.agg #[.string x.s, .int .i64 x.a, .int .i64 x.b, .int .i64 x.c, .int .i64 x.x, .int .i64 x.y, .int .i64 x.z], .bool true]) (by simp [results, Try.results11, go_sem, *]) rfl ⟨rfl, g2.set7 _ (by omega) _ _ _ _ _ _ _⟩
set_option maxHeartbeats 4000000 in
set_option maxRecDepth 100000 in
theorem refState7_any (A : List Acc) (M : List Mk) (s : ByteArray) (adA : Option Addr) (capA : Nat) (adM : Option Addr) (capM : Nat) (w : World) (h : LedAt w adA adM A M) :
    Calls Try.prog 17 #[.agg #[.slice adA A.length capA, .slice adM M.length capM], .string s] w fun e w' => e = .returned (.int .i64 (stateE A M s)) ∧ Gr w w' := by
  have HM : Hid (∀ w', Gr w w' → Calls Try.prog 15 #[.agg #[.slice adA A.length capA, .slice adM M.length capM]] w' fun e w2 => e = .returned (.int .i64 (mayL A M)) ∧ Gr w' w2) := fun w' g => refMay7_any A M adA capA adM capM w' (h.gr g)
  have HI : Hid (∀ w', Gr w w' → Calls Try.prog 48 #[.agg #[.slice adA A.length capA, .slice adM M.length capM], .string s] w' fun e w2 => e = .returned (.int .i64 (firstI (Led.ky M) s)) ∧ Gr w' w2) := fun w' g => refMk_any A M s adA capA adM capM w' (h.m.gr g) h.lm
  have HL : Hid (MksAt w adM M) := h.m
  unfold stateE
  cases hm : Led.mayB A M with
  | false =>
    rw [mayL_no hm] at HM
    generalize firstI (Led.ky M) s = fi at *
    clear h hm
    go_enter Try.func17, Try.ntmps17
    go_wp2_with fail
    refine (HI.out _ ((Gr.refl _).alloc)).mono ?_
    rintro e w1 ⟨rfl, hg1⟩
    have HB1 : Hid (TwoAt w1 w.heap.size (.slice adA A.length capA) (.slice adM M.length capM)) := (TwoAt.new w _ _ _ _ rfl).gr hg1
    have g1 : Gr w w1 := (by repeat (first | exact Gr.refl _ | refine Gr.alloc ?_ | refine Gr.drew ?_ | refine Gr.trans ?_ (by assumption)))
    obtain ⟨b0, b1, _, _, bl⟩ := HB1.out
    clear hg1
    go_wp2_with fail
    refine (HM.out _ g1).mono ?_
    rintro e w2 ⟨rfl, hg2⟩
    have HB2 : Hid (TwoAt w2 w.heap.size (.slice adA A.length capA) (.slice adM M.length capM)) := HB1.out.gr hg2
    have g2 : Gr w w2 := g1.trans hg2
    clear hg2 b0 b1 bl HB1 g1
    obtain ⟨b0, b1, _, _, bl⟩ := HB2.out
    go_wp2
    go_ret
    exact ⟨rfl, g2⟩
  | true =>
    rw [mayL_yes hm] at HM
    have hM := (Led.may_iff A M).1 hm
    simp only [if_true]
    cases hb : Led.hasB (Led.ky M) s with
    | false =>
      rw [first_neg hb] at HI
      clear h hm hM hb
      go_enter Try.func17, Try.ntmps17
      go_wp2_with fail
      refine (HI.out _ ((Gr.refl _).alloc)).mono ?_
      rintro e w1 ⟨rfl, hg1⟩
      have HB1 : Hid (TwoAt w1 w.heap.size (.slice adA A.length capA) (.slice adM M.length capM)) := (TwoAt.new w _ _ _ _ rfl).gr hg1
      have g1 : Gr w w1 := (by repeat (first | exact Gr.refl _ | refine Gr.alloc ?_ | refine Gr.drew ?_ | refine Gr.trans ?_ (by assumption)))
      obtain ⟨b0, b1, _, _, bl⟩ := HB1.out
      clear hg1
      go_wp2_with fail
      refine (HM.out _ g1).mono ?_
      rintro e w2 ⟨rfl, hg2⟩
      have HB2 : Hid (TwoAt w2 w.heap.size (.slice adA A.length capA) (.slice adM M.length capM)) := HB1.out.gr hg2
      have g2 : Gr w w2 := g1.trans hg2
      clear hg2 b0 b1 bl HB1 g1
      obtain ⟨b0, b1, _, _, bl⟩ := HB2.out
      go_wp2
      go_ret
      exact ⟨rfl, g2⟩
    | true =>
      rw [first_pos hM.um hb] at HI
      obtain ⟨hp, _⟩ := Led.pos_mem hM.um ((Led.has_iff _ _).1 hb)
      rw [Led.ky_len] at hp
      have hge : (M[Led.pos (Led.ky M) s]?).elim 0 Mk.st = M[Led.pos (Led.ky M) s].st := by rw [List.getElem?_eq_getElem hp]; rfl
      obtain ⟨b, off, had, hbw, d0, d1, d2, d3, d4⟩ := (MksAt.at HL.out (Led.pos (Led.ky M) s) hp)
      simp only [if_true]
      rw [hge]
      generalize M[Led.pos (Led.ky M) s] = x at *
      generalize Led.pos (Led.ky M) s = p at *
      subst had
      have hpi : (p : Int) < (M.length : Int) := by omega
      have hpn : ¬ ((p : Nat) : Int) < 0 := by omega
      clear h hm hM hb hge
      go_enter Try.func17, Try.ntmps17
      go_wp2_with fail
      refine (HI.out _ ((Gr.refl _).alloc)).mono ?_
      rintro e w1 ⟨rfl, hg1⟩
      have HB1 : Hid (TwoAt w1 w.heap.size (.slice adA A.length capA) (.slice (some ⟨b, off, none⟩) M.length capM)) := (TwoAt.new w _ _ _ _ rfl).gr hg1
      have g1 : Gr w w1 := (by repeat (first | exact Gr.refl _ | refine Gr.alloc ?_ | refine Gr.drew ?_ | refine Gr.trans ?_ (by assumption)))
      obtain ⟨b0, b1, _, _, bl⟩ := HB1.out
      clear hg1
      go_wp2_with fail
      refine (HM.out _ g1).mono ?_
      rintro e w2 ⟨rfl, hg2⟩
      have HB2 : Hid (TwoAt w2 w.heap.size (.slice adA A.length capA) (.slice (some ⟨b, off, none⟩) M.length capM)) := HB1.out.gr hg2
      have g2 : Gr w w2 := g1.trans hg2
      clear hg2 b0 b1 bl HB1 g1
      obtain ⟨b0, b1, _, _, bl⟩ := HB2.out
      have e4 := g2.keep d4
      have hb2 : b < w2.heap.size := Nat.lt_of_lt_of_le hbw g2.size
      clear d0 d1 d2 d3 d4
      go_wp2
      go_ret
      exact ⟨rfl, g2⟩
end Go.Proofs.Ytgidkmipecfjhaa
namespace Go.Proofs.Ytgidkmipecfjhaa
open Go.RowKit
theorem add64_any (x y : Int) (hx : 0 ≤ x) (hy : 0 ≤ y) (w : World) :
    (callFunc 90 #[.int .u64 x, .int .u64 y, .int .u64 0]).run Try.prog w = .ok (.value (.tuple #[.int .u64 ((x + y) % 18446744073709551616), .int .u64 ((x + y) / 18446744073709551616)])) w := by
  rw [run_callFunc_extern Try.func90 (by kernel_rfl) (by kernel_rfl) (by kernel_rfl) (e := add64Entry) (by kernel_rfl), run_add64 x y 0 hx hy (by omega) (by omega)]
  simp only [Result.andThen, Int.add_zero]
set_option maxHeartbeats 1000000 in
set_option maxRecDepth 100000 in
theorem sum_any (l : List Int) (ad : Option Addr) (cap : Nat) (w : World) (hL : IntsAt w ad l) (hn : l.length ≤ 9223372036854775807) (hr : ∀ a ∈ l, -9223372036854775808 ≤ a ∧ a ≤ 9223372036854775807) :
    Calls Try.prog 69 #[.slice ad l.length cap] w fun e w' => e = .returned (.tuple #[.int .i64 (Csh.valE (Csh.sumE l)), .int .i64 (Csh.errE (Csh.sumE l))]) ∧ w' = w := by
  have hb := Csh.sum_bound l hr
  have HN : Hid (Calls Try.prog 92 #[.int .u64 (Csh.highE (Csh.sumE l)), .int .u64 (Csh.lowE (Csh.sumE l))] w fun e w' => e = .returned (.tuple #[.int .i64 (Csh.valE (Csh.sumE l)), .int .i64 (Csh.errE (Csh.sumE l))]) ∧ w' = w) := narrow_any (Csh.sumE l) w (by omega) (by omega)
  have HL : Hid (IntsAt w ad l) := hL
  have HR : Hid (∀ a ∈ l, -9223372036854775808 ≤ a ∧ a ≤ 9223372036854775807) := hr
  clear hL hr hb
  go_enter Try.func69, Try.ntmps69
  go_wp2
  go_loop [4, 5, 11] (fun h o i => ∃ k : Nat, k ≤ l.length ∧ i = .int .i64 k ∧ h = .int .u64 (Csh.highE (Csh.sumE (l.take k))) ∧ o = .int .u64 (Csh.lowE (Csh.sumE (l.take k)))) (fun _ _ i => l.length - (intOf i).toNat)
  case atStart => exact ⟨0, by omega, rfl, rfl, rfl⟩
  case round =>
    obtain ⟨k, hk, rfl, rfl, rfl⟩ := hrel
    by_cases hlt : k < l.length
    · obtain ⟨b, off, rfl, hbl, hc⟩ := HL.out k hlt
      have hz := HR.out l[k] (List.getElem_mem hlt)
      have hm : Csh.sumE (l.take (k + 1)) = Csh.sumE (l.take k) + l[k] := Csh.sum_more l k hlt
      have HM : Hid (Csh.sumE (l.take (k + 1)) = Csh.sumE (l.take k) + l[k]) := hm
      have HU : Hid (Calls Try.prog 91 #[.int .i64 l[k]] w fun e w' => e = .returned (.int .u64 (Csh.up l[k])) ∧ w' = w) := upper_any l[k] w hz.1 hz.2
      have hs := Csh.high_step (Csh.sumE (l.take k)) l[k] hz.1 hz.2
      have hlo := Csh.low_step (Csh.sumE (l.take k)) l[k]
      have hadd := add64_any (Csh.lowE (Csh.sumE (l.take k))) (Csh.lowE l[k]) (Csh.low_rng _).1 (Csh.low_rng _).1
      have hwa : IntKind.u64.wrap l[k] = Csh.lowE l[k] := by rw [IntKind.wrap_u64]; rfl
      have hw1 := IntKind.wrap_u64 (Csh.up l[k] + (Csh.lowE (Csh.sumE (l.take k)) + Csh.lowE l[k]) / 18446744073709551616)
      have hw2 := IntKind.wrap_u64 (Csh.highE (Csh.sumE (l.take k)) + (Csh.up l[k] + (Csh.lowE (Csh.sumE (l.take k)) + Csh.lowE l[k]) / 18446744073709551616) % 18446744073709551616)
      rw [hs] at hw2
      rw [hlo] at hadd
      rw [← hm] at hw2 hadd
      clear hs hlo hm
      generalize (Csh.up l[k] + (Csh.lowE (Csh.sumE (l.take k)) + Csh.lowE l[k]) / 18446744073709551616) % 18446744073709551616 = v1 at *
      generalize (Csh.lowE (Csh.sumE (l.take k)) + Csh.lowE l[k]) / 18446744073709551616 = cy at *
      generalize Csh.up l[k] = ua at *
      generalize Csh.lowE l[k] = la at *
      generalize l[k] = a at *
      generalize Csh.highE (Csh.sumE (l.take k)) = hs at *
      generalize Csh.lowE (Csh.sumE (l.take k)) = ls at *
      obtain ⟨lo, elo⟩ : ∃ x, Csh.lowE (Csh.sumE (l.take (k + 1))) = x := ⟨_, rfl⟩
      obtain ⟨hi, ehi⟩ : ∃ x, Csh.highE (Csh.sumE (l.take (k + 1))) = x := ⟨_, rfl⟩
      have ELO : Hid (Csh.lowE (Csh.sumE (l.take (k + 1))) = lo) := elo
      have EHI : Hid (Csh.highE (Csh.sumE (l.take (k + 1))) = hi) := ehi
      rw [elo] at hadd
      rw [ehi] at hw2
      clear elo ehi HM
      go_wp2_with fail
      refine HU.out.mono ?_
      rintro e w1 ⟨rfl, hww⟩; obtain rfl := hww.symm
      go_wp2
      go_round
      case rel => exact ⟨k + 1, by omega, by go_num, by rw [EHI.out], by rw [ELO.out]⟩
      case measure => simp [intOf]; omega
    · have hkl : l.take k = l := List.take_of_length_le (by omega)
      have HE : Hid (l.take k = l) := hkl
      clear hkl
      rw [HE.out]
      go_wp2_with fail
      refine HN.out.mono ?_
      rintro e w1 ⟨rfl, hww⟩; obtain rfl := hww.symm
      go_wp2
      go_ret2
      exact ⟨rfl, rfl⟩
end Go.Proofs.Ytgidkmipecfjhaa
namespace Go.Proofs.Ytgidkmipecfjhaa
open Go.RowKit
open Led (Acc Mk)
theorem val_in {x : Int} (h : -9223372036854775808 ≤ x ∧ x ≤ 9223372036854775807) : Csh.valE x = x ∧ Csh.errE x = 0 := by
  have hb : Csh.okB x = true := by unfold Csh.okB; simp; omega
  unfold Csh.valE Csh.errE
  rw [hb]
  exact ⟨rfl, rfl⟩
theorem together_any (fs ks : List Int) (a1 a2 : Option Addr) (c1 c2 : Nat) (w : World) (h1 : IntsAt w a1 fs) (h2 : IntsAt w a2 ks) (hn1 : fs.length ≤ 9223372036854775807) (hn2 : ks.length ≤ 9223372036854775807)
    (hr1 : ∀ a ∈ fs, -9223372036854775808 ≤ a ∧ a ≤ 9223372036854775807) (hr2 : ∀ a ∈ ks, -9223372036854775808 ≤ a ∧ a ≤ 9223372036854775807)
    (hs1 : -9223372036854775808 ≤ Csh.sumE fs ∧ Csh.sumE fs ≤ 9223372036854775807) (hs2 : -9223372036854775808 ≤ Csh.sumE ks ∧ Csh.sumE ks ≤ 9223372036854775807) :
    Calls Try.prog 36 #[.slice a1 fs.length c1, .slice a2 ks.length c2] w fun e w' => e = .returned (.tuple #[.int .i64 (Csh.sumE fs), .int .i64 (Csh.sumE ks), .int .i64 0]) ∧ w' = w := by
  have H1 : Hid (Calls Try.prog 69 #[.slice a1 fs.length c1] w fun e w' => e = .returned (.tuple #[.int .i64 (Csh.sumE fs), .int .i64 0]) ∧ w' = w) := by
    have := sum_any fs a1 c1 w h1 hn1 hr1
    rw [(val_in hs1).1, (val_in hs1).2] at this
    exact this
  have H2 : Hid (Calls Try.prog 69 #[.slice a2 ks.length c2] w fun e w' => e = .returned (.tuple #[.int .i64 (Csh.sumE ks), .int .i64 0]) ∧ w' = w) := by
    have := sum_any ks a2 c2 w h2 hn2 hr2
    rw [(val_in hs2).1, (val_in hs2).2] at this
    exact this
  clear h1 h2 hn1 hn2 hr1 hr2 hs1 hs2
  go_enter Try.func36, Try.ntmps36
  go_wp2_with fail
  refine H1.out.mono ?_
  rintro e w1 ⟨rfl, hw1⟩; obtain rfl := hw1.symm
  go_wp2_with fail
  refine H2.out.mono ?_
  rintro e w2 ⟨rfl, hw2⟩; obtain rfl := hw2.symm
  go_wp2
  exact bodyPost_ret (v := .tuple #[.int .i64 (Csh.sumE fs), .int .i64 (Csh.sumE ks), .int .i64 0]) (by simp [results, Try.results36, go_sem, *]) rfl ⟨rfl, rfl⟩
end Go.Proofs.Ytgidkmipecfjhaa
namespace Go.Proofs.Ytgidkmipecfjhaa
variable {P : Program} {md : Region.Mode} {ops : Array Oper} {Q : Exit → Act → World → Prop} {s : Nat} {S : World → Prop}
def freeBut (md : Region.Mode) (ops : Array Oper) (listed : Array Bool) (i s : Nat) : Bool :=
  match ops[i]? with
  | none => false
  | some oi => (List.range ops.size).all fun j => j == i || j == s || listed.getD j true || match ops[j]? with
      | some oj => oj.after.any (fun e => Region.binds md e && e.on == i) || oi.apart ops oj
      | none => true
theorem freeBut_spec {i : Nat} {oi : Oper} {listed : Array Bool} (hi : ops[i]? = some oi) (h : freeBut md ops listed i s = true) (j : Nat) (oj : Oper)
    (hj : ops[j]? = some oj) (hne : j ≠ i) (hns : j ≠ s) (hun : listed.getD j true = false) (hno : ∀ e ∈ oj.after, Region.binds md e = true → e.on ≠ i) : oi.apart ops oj = true := by
  simp only [freeBut, hi, List.all_eq_true, List.mem_range] at h
  have h1 := h j (Array.getElem?_eq_some_iff.1 hj).1
  simp only [hj, Bool.or_eq_true, beq_iff_eq, hne, hns, false_or, hun, Bool.false_eq_true] at h1
  rcases h1 with h1 | h1
  · obtain ⟨e, he, hb⟩ := Array.any_eq_true'.1 h1
    simp only [Bool.and_eq_true, beq_iff_eq] at hb
    exact absurd hb.2 (hno e he hb.1)
  · exact h1
theorem wpAnyL_first2 {i t : Nat} {oi ot os : Oper} {v : Value} (hi : ops[i]? = some oi) (hsel : ∀ (j : Nat) (o : Oper) cs b, ops[j]? = some o → o.op ≠ .select cs b)
    (hQ : ∀ c a w, Q (.panic c) (a.put oi.dst v) w → Q (.panic c) a w) (his : i ≠ s) (hit : i ≠ t) (hos : ops[s]? = some os) (hot : ops[t]? = some ot) (hdt : ∃ e ∈ ot.after, Region.binds md e = true ∧ e.on = i) (hds : ∃ e ∈ os.after, Region.binds md e = true ∧ e.on = t) :
    ∀ (fuel : Nat) (listed : Array Bool) (a : Act) (w : World),
      (∀ j oj, ops[j]? = some oj → j ≠ i → j ≠ s → listed.getD j true = false → (∀ e ∈ oj.after, Region.binds md e = true → e.on ≠ i) → oi.apart ops oj = true) →
      i ∈ Region.ready md ops listed → YieldsIf P ops S oi v a → listed.getD s true = false → listed.getD t true = false → S w →
      wpAnyL P md ops Q s S fuel (listed.setIfInBounds i true) (a.put oi.dst v) w → wpAnyL P md ops Q s S (fuel + 1) listed a w := by
  intro fuel
  induction fuel with
  | zero =>
    intro listed a w _ hr hy _ _ hS H
    refine ⟨fun h => (by rw [h] at hr; cases hr), fun j hj => ?_⟩
    by_cases hji : j = i
    · subst hji; exact hy.wpOp hi hS ⟨fun _ => hS, H⟩
    · have := ready_mono hj hji
      rw [H.1] at this
      cases this
  | succ fuel ih =>
    intro listed a w hfree hr hy hls hlt hS H
    refine ⟨fun h => (by rw [h] at hr; cases hr), fun j hj => ?_⟩
    by_cases hji : j = i
    · subst hji; exact hy.wpOp hi hS ⟨fun _ => hS, H⟩
    · have h1 := H.2 j (ready_mono hj hji)
      obtain ⟨hjun, oj, hoj, hall⟩ := mem_ready.1 hj
      have hnot : ∀ k, listed.getD k true = false → ∀ e ∈ oj.after, Region.binds md e = true → e.on ≠ k := fun k hu e he hb heq => by
        have h1 := hall e he hb
        rw [heq] at h1
        rcases Nat.lt_or_ge k listed.size with h' | h'
        · simp [h'] at hu h1; rw [hu] at h1; cases h1
        · simp [Array.getElem?_eq_none h'] at h1
      have hni := hnot i (mem_ready.1 hr).1
      have hjs : j ≠ s := fun e => by
        subst e
        rw [hos] at hoj
        cases hoj
        obtain ⟨e, he, hb, hon⟩ := hds
        exact hnot t hlt e he hb hon
      have hjt : j ≠ t := fun e => by
        subst e
        rw [hot] at hoj
        cases hoj
        obtain ⟨e, he, hb, hon⟩ := hdt
        exact hni e he hb hon
      have h2 := wpOp_putIf hoj (hfree j oj hoj hji hjs hjun hni) (fun cs b => hsel i oi cs b hi) (fun cs b => hsel j oj cs b hoj) hQ hy h1
      have hfree' : ∀ k ok, ops[k]? = some ok → k ≠ i → k ≠ s → (listed.setIfInBounds j true).getD k true = false →
          (∀ e ∈ ok.after, Region.binds md e = true → e.on ≠ i) → oi.apart ops ok = true := fun k ok hk hki hks hun hno => by
        refine hfree k ok hk hki hks ?_ hno
        by_cases hjk : j = k
        · subst hjk; exact hjun
        · rw [getD_set_ne true hjk] at hun; exact hun
      have hls' : (listed.setIfInBounds j true).getD s true = false := by rw [getD_ne hjs]; exact hls
      have hlt' : (listed.setIfInBounds j true).getD t true = false := by rw [getD_ne hjt]; exact hlt
      have hls2 : ((listed.setIfInBounds i true).setIfInBounds j true).getD s true = false := by rw [getD_ne hjs, getD_ne his]; exact hls
      refine wpOp_mono (fun a' w' h3 => ⟨fun _ => h3.2.1 hls2, ih (listed.setIfInBounds j true) a' w' hfree' (ready_mono hr (Ne.symm hji)) h3.1 hls' hlt' (h3.2.1 hls2) ?_⟩) h2
      rw [Array.setIfInBounds_comm _ _ hji]
      exact h3.2.2
theorem takeT (i d t : Nat) {oi : Oper} {v : Value} {fuel : Nat} {listed : Array Bool} {a : Act} {w : World} (hi : ops[i]? = some oi) (hd : oi.dst = some d) (his : i ≠ s) (hit : i ≠ t) (hwt : waits md ops t i = true) (hws : waits md ops s t = true)
    (hs : Region.noSelect ops = true) (hf : freeBut md ops listed i s = true) (hr : (Region.ready md ops listed).contains i = true) (hls : listed.getD s true = false) (hlt : listed.getD t true = false)
    (hQ : ∀ c a w, Q (.panic c) (a.put (some d) v) w → Q (.panic c) a w) (hw : Region.wanted oi (yielded ops a.tmps) = true) (hy : ∀ w, S w → (execOp a.eval oi).run P w = .ok (.value v) w) (hS : S w)
    (h : wpAnyL P md ops Q s S fuel (listed.setIfInBounds i true) (a.put (some d) v) w) : wpAnyL P md ops Q s S (fuel + 1) listed a w := by
  rw [← hd] at hQ h
  obtain ⟨ot, hot, hdt⟩ := waits_spec hwt
  obtain ⟨os, hos, hds⟩ := waits_spec hws
  exact wpAnyL_first2 hi (Region.noSelect_spec hs) hQ his hit hos hot hdt hds fuel listed a w (freeBut_spec hi hf) (by simpa using hr) (Or.inl ⟨hw, hy⟩) hls hlt hS h
end Go.Proofs.Ytgidkmipecfjhaa
