/- What the proof is made of, part 32. -/
import Derived.Test.YtgidkmipecfjhaaTLLDoes31
import Derived.Laws.NewBlocks
namespace Go.Proofs.Ytgidkmipecfjhaa
open Go.RowKit
open Led (Acc Mk)
set_option maxHeartbeats 8000000 in
set_option maxRecDepth 100000 in
theorem refDo_yes2 (A : List Acc) (M : List Mk) (key : ByteArray) (k n : Int) (t : ByteArray) (adA : Option Addr) (capA : Nat) (adM : Option Addr) (capM : Nat) (w : World) (h : LedAt w adA adM A M) (hs : key.size ≤ 9223372036854775807) (ht : t.size ≤ 9223372036854775807) (hall : (Led.mayB A M && Led.keyB key && Act.actB k t n) = true) (hh : Led.hasB (Led.ky M) key = false) (he : begE A M k t n = 0) :
    Calls Try.prog 21 #[.agg #[.slice adA A.length capA, .slice adM M.length capM], .string key, .agg #[.int .i64 k, .string t, .int .i64 n]] w fun e w' => DoR w (A.set (Led.pos (Led.nm A) t) (mvA Act.chDo (atA A t) k n)) (insK M ⟨key, k, t, n, 1⟩) e w' := by
  have HM : Hid (∀ w', Gr w w' → Calls Try.prog 15 #[.agg #[.slice adA A.length capA, .slice adM M.length capM]] w' fun e w2 => e = .returned (.int .i64 (mayL A M)) ∧ Gr w' w2) := fun w' g => refMay7_any A M adA capA adM capM w' (h.gr g)
  have HK : Hid (∀ w', Calls Try.prog 43 #[.string key] w' fun e w2 => e = .returned (.bool (Led.keyB key)) ∧ w2 = w') := fun w' => refKey_any key w' hs
  have HC : Hid (∀ w', Calls Try.prog 44 #[.agg #[.int .i64 k, .string t, .int .i64 n]] w' fun e w2 => e = .returned (.int .i64 (Act.chkE k t n)) ∧ Gr w' w2) := fun w' => refActCheck_any k n t w' ht
  have HI : Hid (∀ w', Gr w w' → Calls Try.prog 48 #[.agg #[.slice adA A.length capA, .slice adM M.length capM], .string key] w' fun e w2 => e = .returned (.int .i64 (firstI (Led.ky M) key)) ∧ Gr w' w2) := fun w' g => refMk_any A M key adA capA adM capM w' (h.m.gr g) h.lm
  have HJ : Hid (∀ w', Gr w w' → Calls Try.prog 32 #[.agg #[.slice adA A.length capA, .slice adM M.length capM], .string t] w' fun e w2 => e = .returned (.int .i64 (firstI (Led.nm A) t)) ∧ Gr w' w2) := fun w' g => refAcc_any A M t adA capA adM capM w' (h.a.gr g) h.la
  obtain ⟨⟨hm, hkb⟩, hab⟩ : (Led.mayB A M = true ∧ Led.keyB key = true) ∧ Act.actB k t n = true := by simpa only [Bool.and_eq_true] using hall
  rw [mayL_yes hm] at HM
  rw [hkb] at HK
  rw [Act.chk_yes hab] at HC
  have hM := (Led.may_iff A M).1 hm
  rw [first_neg hh] at HI
  have hh2 : Led.hasB (Led.nm A) t = true := by
    cases hq : Led.hasB (Led.nm A) t with
    | true => rfl
    | false => unfold begE at he; rw [hq, if_neg (by decide)] at he; cases he
  have hl : ¬ 500 ≤ M.length := fun hl => by unfold begE at he; rw [hh2, if_pos rfl, if_pos hl] at he; cases he
  have hli : ((M.length : Int) == 500) = false := by rw [beq_eq_false_iff_ne]; omega
  have hE0 : begE A M k t n = mvX Act.chDo (atA A t) k t n := by unfold begE; rw [hh2, if_pos rfl, if_neg hl]
  obtain ⟨hp, hpe⟩ := Led.pos_mem hM.ua ((Led.has_iff _ _).1 hh2)
  rw [Led.nm_len] at hp
  obtain ⟨bb, oo, rfl, hb0, _⟩ := AccsAt.at h.a (Led.pos (Led.nm A) t) hp
  have hx : A[Led.pos (Led.nm A) t] = atA A t := by unfold atA; rw [List.getD_eq_getElem?_getD, List.getElem?_eq_getElem hp]; rfl
  have hxa : inA (atA A t) := by rw [← hx]; exact h.ra _ (List.getElem_mem hp)
  rw [first_pos hM.ua hh2] at HJ
  have HD : Hid (∀ w', Calls Try.prog 58 #[.int .i64 1, .agg #[.string (atA A t).s, .int .i64 (atA A t).a, .int .i64 (atA A t).b, .int .i64 (atA A t).c, .int .i64 (atA A t).x, .int .i64 (atA A t).y, .int .i64 (atA A t).z], .agg #[.int .i64 k, .string t, .int .i64 n]] w' fun e w2 => e = .returned (.tuple #[.agg #[.string (mvY Act.chDo (atA A t) k t n).s, .int .i64 (mvY Act.chDo (atA A t) k t n).a, .int .i64 (mvY Act.chDo (atA A t) k t n).b, .int .i64 (mvY Act.chDo (atA A t) k t n).c, .int .i64 (mvY Act.chDo (atA A t) k t n).x, .int .i64 (mvY Act.chDo (atA A t) k t n).y, .int .i64 (mvY Act.chDo (atA A t) k t n).z], .int .i64 (mvX Act.chDo (atA A t) k t n)]) ∧ Gr w' w2) := fun w' => refDoX 1 Act.chDo (atA A t) k n t w' hxa.1 ht (fun h i o out w2 => refPot1_any h i o n out w2)
  have HAA : Hid (AccsAt w (some ⟨bb, oo, none⟩) A) := h.a
  rw [hE0] at he
  rw [mvY_ok he, he] at HD
  have HP : Hid (∀ w', Gr w w' → Calls Try.prog 59 #[.agg #[.slice (some ⟨bb, oo, none⟩) A.length capA, .slice adM M.length capM], .agg #[.string (mvA Act.chDo (atA A t) k n).s, .int .i64 (mvA Act.chDo (atA A t) k n).a, .int .i64 (mvA Act.chDo (atA A t) k n).b, .int .i64 (mvA Act.chDo (atA A t) k n).c, .int .i64 (mvA Act.chDo (atA A t) k n).x, .int .i64 (mvA Act.chDo (atA A t) k n).y, .int .i64 (mvA Act.chDo (atA A t) k n).z], .agg #[.string key, .int .i64 k, .string t, .int .i64 n, .int .i64 1]] w' fun e w2 => PutR w' (A.set (Led.pos (Led.nm A) t) (mvA Act.chDo (atA A t) k n)) (insK M ⟨key, k, t, n, 1⟩) e w2) := fun w' g => by
    have hq := refPut_any A M (mvA Act.chDo (atA A t) k n) ⟨key, k, t, n, 1⟩ (Led.pos (Led.nm A) t) (some ⟨bb, oo, none⟩) capA adM capM w' (h.a.gr g) (h.m.gr g) hM.ua hM.um hM.la hM.lm hp (by rw [hx]; rfl)
    rw [hh, ptM_no] at hq
    exact hq
  clear h hm he hkb hab hM hh2 hh hall hE0 hxa hpe hl
  generalize A.set (Led.pos (Led.nm A) t) (mvA Act.chDo (atA A t) k n) = XX at *
  generalize insK M ⟨key, k, t, n, 1⟩ = YY at *
  generalize mvA Act.chDo (atA A t) k n = y at *
  generalize atA A t = x at *
  generalize Led.pos (Led.nm A) t = p at *
  have hpi : (p : Int) < (A.length : Int) := by omega
  go_enter Try.func21, Try.ntmps21
  go_wp2_with fail
  refine (HM.out _ ((Gr.refl _).alloc.alloc.alloc)).mono ?_
  rintro e w1 ⟨rfl, hg1⟩
  have HB1 : Hid (TwoAt w1 w.heap.size (.slice (some ⟨bb, oo, none⟩) A.length capA) (.slice adM M.length capM)) := (((TwoAt.new w _ _ _ _ rfl).gr (Gr.refl _).alloc).gr (Gr.refl _).alloc).gr hg1
  have HX1 : Hid (BoxAt w1 (w.heap.size + 1) (.int .i64 k) (.string t) (.int .i64 n)) := ((BoxAt.new _ _ _ _ _ (w.heap.size + 1) (by simp)).gr (Gr.refl _).alloc).gr hg1
  have HR1 : Hid (TwoAt w1 (w.heap.size + 1 + 1) (.slice none 0 0) (.slice none 0 0)) := (TwoAt.new _ _ _ _ (w.heap.size + 1 + 1) (by simp)).gr hg1
  have g1 : Gr w w1 := (by repeat (first | exact Gr.refl _ | refine Gr.alloc ?_ | refine Gr.drew ?_ | refine Gr.trans ?_ (by assumption)))
  clear hg1
  go_wp2_with fail
  refine (HK.out _).mono ?_
  rintro e w2 ⟨rfl, hw2⟩; obtain rfl := hw2.symm
  obtain ⟨a0, a1, a2, _, _, _, al⟩ := HX1.out
  go_wp2_with fail
  refine (HC.out _).mono ?_
  rintro e w2 ⟨rfl, hg2⟩
  have HB2 : Hid (TwoAt w2 w.heap.size (.slice (some ⟨bb, oo, none⟩) A.length capA) (.slice adM M.length capM)) := HB1.out.gr hg2
  have HX2 : Hid (BoxAt w2 (w.heap.size + 1) (.int .i64 k) (.string t) (.int .i64 n)) := HX1.out.gr hg2
  have HR2 : Hid (TwoAt w2 (w.heap.size + 1 + 1) (.slice none 0 0) (.slice none 0 0)) := HR1.out.gr hg2
  have g2 : Gr w w2 := g1.trans hg2
  clear hg2 g1 a0 a1 a2 al HB1 HX1 HR1
  obtain ⟨b0, b1, _, _, bl⟩ := HB2.out
  go_wp2_with fail
  refine (HI.out _ g2).mono ?_
  rintro e w3 ⟨rfl, hg3⟩
  have HB3 : Hid (TwoAt w3 w.heap.size (.slice (some ⟨bb, oo, none⟩) A.length capA) (.slice adM M.length capM)) := HB2.out.gr hg3
  have HX3 : Hid (BoxAt w3 (w.heap.size + 1) (.int .i64 k) (.string t) (.int .i64 n)) := HX2.out.gr hg3
  have HR3 : Hid (TwoAt w3 (w.heap.size + 1 + 1) (.slice none 0 0) (.slice none 0 0)) := HR2.out.gr hg3
  have g3 : Gr w w3 := g2.trans hg3
  clear hg3 g2 b0 b1 bl HB2 HX2 HR2
  go_upto_region 6 with fail
  refine wp_region_held_drew (S := (fun w' => Gr w3 w')) (by kernel_rfl) (by exact (by (with_reducible repeat' (first | exact Gr.refl _ | refine Gr.set ?_ _ ?_ _ | refine Gr.alloc ?_ | refine Gr.drew ?_ | refine Gr.trans ?_ (by assumption))) <;> (first | (simp; done) | (simp; omega) | omega))) (fun hHeld => ?_)
  refine ty 0 28 hHeld ?_
  refine ty 1 29 hHeld ?_
  refine ty 2 30 hHeld ?_
  refine tn 3 31 hHeld ?_
  refine tn 4 32 hHeld ?_
  refine tn 5 33 hHeld ?_
  refine tn 6 34 hHeld ?_
  refine tn 7 35 hHeld ?_
  refine tn 8 36 hHeld ?_
  refine tn 9 37 hHeld ?_
  refine tn 10 38 hHeld ?_
  refine tn 11 39 hHeld ?_
  refine tn 12 40 hHeld ?_
  refine tn 13 41 hHeld ?_
  refine tn 14 42 hHeld ?_
  refine tn 15 43 hHeld ?_
  refine tn 16 44 hHeld ?_
  refine tn 17 45 hHeld ?_
  refine tn 18 46 hHeld ?_
  refine tn 19 47 hHeld ?_
  refine ty 20 48 hHeld ?_
  refine wpAnyH_done (by kernel_rfl) ?_ _
  obtain ⟨w4, hw4⟩ : ∃ W, W = w3.drew := ⟨_, rfl⟩
  have hg4 : Gr w3 w4 := by rw [hw4]; exact (Gr.refl _).drew
  rw [← hw4]
  clear hw4 hHeld
  have HB4 : Hid (TwoAt w4 w.heap.size (.slice (some ⟨bb, oo, none⟩) A.length capA) (.slice adM M.length capM)) := HB3.out.gr hg4
  have HX4 : Hid (BoxAt w4 (w.heap.size + 1) (.int .i64 k) (.string t) (.int .i64 n)) := HX3.out.gr hg4
  have HR4 : Hid (TwoAt w4 (w.heap.size + 1 + 1) (.slice none 0 0) (.slice none 0 0)) := HR3.out.gr hg4
  have g4 : Gr w w4 := g3.trans hg4
  clear hg4 g3 HB3 HX3 HR3
  obtain ⟨b0, b1, _, _, bl⟩ := HB4.out
  obtain ⟨a0, a1, a2, _, _, _, al⟩ := HX4.out
  go_wp2_with fail
  refine (HJ.out _ g4).mono ?_
  rintro e w5 ⟨rfl, hg5⟩
  have HB5 : Hid (TwoAt w5 w.heap.size (.slice (some ⟨bb, oo, none⟩) A.length capA) (.slice adM M.length capM)) := HB4.out.gr hg5
  have HX5 : Hid (BoxAt w5 (w.heap.size + 1) (.int .i64 k) (.string t) (.int .i64 n)) := HX4.out.gr hg5
  have HR5 : Hid (TwoAt w5 (w.heap.size + 1 + 1) (.slice none 0 0) (.slice none 0 0)) := HR4.out.gr hg5
  have g5 : Gr w w5 := g4.trans hg5
  clear hg5 g4 b0 b1 bl a0 a1 a2 al HB4 HX4 HR4
  obtain ⟨b0, b1, _, _, bl⟩ := HB5.out
  obtain ⟨a0, a1, a2, _, _, _, al⟩ := HX5.out
  obtain ⟨_, _, ee, hbw, d0, d1, d2, d3, d4, d5, d6⟩ := AccsAt.at (RowAt.gr HAA.out g5) p hp
  cases ee
  rw [hx] at d0 d1 d2 d3 d4 d5 d6
  go_upto_region 15 with fail
  go_cut [10, 11] (fun sp se wx => ∃ Q : Nat, sp = .pointer (some ⟨Q, 0, none⟩) ∧ se = .int .i64 0 ∧ AccAt wx Q (.string y.s) (.int .i64 y.a) (.int .i64 y.b) (.int .i64 y.c) (.int .i64 y.x) (.int .i64 y.y) (.int .i64 y.z) ∧ Gr w5 wx)
  case first =>
    refine wp_region_held_drew (S := (fun w' => Gr w5 w' ∧ w'.cell? ⟨w.heap.size, 0, none⟩ = some (.slice (some ⟨bb, oo, none⟩) A.length capA) ∧ w'.cell? ⟨bb, oo + p * 7, none⟩ = some (.string x.s) ∧ w'.cell? ⟨bb, oo + p * 7 + 1, none⟩ = some (.int .i64 x.a) ∧ w'.cell? ⟨bb, oo + p * 7 + 2, none⟩ = some (.int .i64 x.b) ∧ w'.cell? ⟨bb, oo + p * 7 + 3, none⟩ = some (.int .i64 x.c) ∧ w'.cell? ⟨bb, oo + p * 7 + 4, none⟩ = some (.int .i64 x.x) ∧ w'.cell? ⟨bb, oo + p * 7 + 5, none⟩ = some (.int .i64 x.y) ∧ w'.cell? ⟨bb, oo + p * 7 + 6, none⟩ = some (.int .i64 x.z) ∧ w'.cell? ⟨w.heap.size + 1, 0, none⟩ = some (.int .i64 k) ∧ w'.cell? ⟨w.heap.size + 1, 1, none⟩ = some (.string t) ∧ w'.cell? ⟨w.heap.size + 1, 2, none⟩ = some (.int .i64 n))) (by kernel_rfl) (by exact holdD11 (by (with_reducible repeat' (first | exact Gr.refl _ | refine Gr.set ?_ _ ?_ _ | refine Gr.alloc ?_ | refine Gr.drew ?_ | refine Gr.trans ?_ (by assumption))) <;> (first | (simp; done) | (simp; omega) | omega)) b0 d0 d1 d2 d3 d4 d5 d6 a0 a1 a2) (fun hHeld => ?_)
    refine ty 0 66 hHeld ?_
    refine ty 1 67 hHeld ?_
    refine ty 2 68 hHeld ?_
    refine ty 3 69 hHeld ?_
    refine ty 4 70 hHeld ?_
    refine ty 5 71 hHeld ?_
    refine wpAnyH_ready (rs := [6, 10]) (by kernel_rfl) (by simp) (AllReadyH.cons rfl (fun K hK => ?_) (AllReadyH.cons rfl (fun K hK => ?_) AllReadyH.nil))
    · skip
      go_simp
      (go_at_call 58; refine (HD.out _).mono ?_; rintro e wn ⟨rfl, hgn⟩)
      (try go_wp2_with fail)
      refine hK.out _ _ (by exact holdD11 (by (with_reducible repeat' (first | exact Gr.refl _ | refine Gr.set ?_ _ ?_ _ | refine Gr.alloc ?_ | refine Gr.drew ?_ | refine Gr.trans ?_ (by assumption))) <;> (first | (simp; done) | (simp; omega) | omega)) b0 d0 d1 d2 d3 d4 d5 d6 a0 a1 a2) (fun hHeldN => ?_)
      clear hHeld hK K
      have hHeld := hHeldN
      clear hHeldN
      refine ty 7 65 hHeld ?_
      refine ty 8 73 hHeld ?_
      refine ty 9 74 hHeld ?_
      refine wpAnyH_ready (rs := [10]) (by kernel_rfl) (by simp) (AllReadyH.cons rfl (fun K hK => ?_) AllReadyH.nil)
      go_simp
      refine hK.out _ _ (by exact holdD11 (by (with_reducible repeat' (first | exact Gr.refl _ | refine Gr.set ?_ _ ?_ _ | refine Gr.alloc ?_ | refine Gr.drew ?_ | refine Gr.trans ?_ (by assumption))) <;> (first | (simp; done) | (simp; omega) | omega)) b0 d0 d1 d2 d3 d4 d5 d6 a0 a1 a2) (fun hHeldN => ?_)
      clear hHeld hK K
      have hHeld := hHeldN
      clear hHeldN
      refine wpAnyH_ready (rs := [11]) (by kernel_rfl) (by simp) (AllReadyH.cons rfl (fun K hK => ?_) AllReadyH.nil)
      go_simp
      refine hK.out _ _ (by exact holdD11 (by (with_reducible repeat' (first | exact Gr.refl _ | refine Gr.set ?_ _ ?_ _ | refine Gr.alloc ?_ | refine Gr.drew ?_ | refine Gr.trans ?_ (by assumption))) <;> (first | (simp; done) | (simp; omega) | omega)) b0 d0 d1 d2 d3 d4 d5 d6 a0 a1 a2) (fun hHeldN => ?_)
      clear hHeld hK K
      have hHeld := hHeldN
      clear hHeldN
      refine ty 12 11 hHeld ?_
      refine wpAnyH_done (by kernel_rfl) ?_ _
      go_wp2_with fail
      go_meet
      exact ⟨_, rfl, rfl, AccAt.new wn _ _ _ _ _ _ _ _ _ rfl, (by (with_reducible repeat' (first | exact Gr.refl _ | refine Gr.set ?_ _ ?_ _ | refine Gr.alloc ?_ | refine Gr.drew ?_ | refine Gr.trans ?_ (by assumption))) <;> (first | (simp; done) | (simp; omega) | omega))⟩
    · skip
      go_simp
      refine hK.out _ _ (by exact holdD11 (by (with_reducible repeat' (first | exact Gr.refl _ | refine Gr.set ?_ _ ?_ _ | refine Gr.alloc ?_ | refine Gr.drew ?_ | refine Gr.trans ?_ (by assumption))) <;> (first | (simp; done) | (simp; omega) | omega)) b0 d0 d1 d2 d3 d4 d5 d6 a0 a1 a2) (fun hHeldN => ?_)
      clear hHeld hK K
      have hHeld := hHeldN
      clear hHeldN
      refine wpAnyH_ready (rs := [6]) (by kernel_rfl) (by simp) (AllReadyH.cons rfl (fun K hK => ?_) AllReadyH.nil)
      go_simp
      (go_at_call 58; refine (HD.out _).mono ?_; rintro e wn ⟨rfl, hgn⟩; have hzn := hgn.size; simp at hzn; have hbz := ((AccAt.new w5 _ _ _ _ _ _ _ _ _ rfl).gr (Gr.refl _).drew).gr hgn; have HBZ : Hid (AccAt wn w5.heap.size _ _ _ _ _ _ _) := hbz; obtain ⟨z0, z1, z2, z3, z4, z5, z6⟩ := hbz.cells; obtain ⟨y0, y1, y2, y3, y4, y5, y6⟩ := hbz.frozens; have zl := hbz.lt; clear hbz)
      (try go_wp2_with fail)
      refine hK.out _ _ (by exact holdD11 (by (with_reducible repeat' (first | exact Gr.refl _ | refine Gr.set ?_ _ ?_ _ | refine Gr.alloc ?_ | refine Gr.drew ?_ | refine Gr.trans ?_ (by assumption))) <;> (first | (simp; done) | (simp; omega) | omega)) b0 d0 d1 d2 d3 d4 d5 d6 a0 a1 a2) (fun hHeldN => ?_)
      clear hHeld hK K
      have hHeld := hHeldN
      clear hHeldN
      refine ty 7 65 hHeld ?_
      refine ty 8 73 hHeld ?_
      refine ty 9 74 hHeld ?_
      refine wpAnyH_ready (rs := [11]) (by kernel_rfl) (by simp) (AllReadyH.cons rfl (fun K hK => ?_) AllReadyH.nil)
      go_simp
      refine hK.out _ _ (by exact holdD11 (by (with_reducible repeat' (first | exact Gr.refl _ | refine Gr.set ?_ _ ?_ _ | refine Gr.alloc ?_ | refine Gr.drew ?_ | refine Gr.trans ?_ (by assumption))) <;> (first | (simp; done) | (simp; omega) | omega)) b0 d0 d1 d2 d3 d4 d5 d6 a0 a1 a2) (fun hHeldN => ?_)
      clear hHeld hK K
      have hHeld := hHeldN
      clear hHeldN
      refine ty 12 11 hHeld ?_
      refine wpAnyH_done (by kernel_rfl) ?_ _
      go_wp2_with fail
      go_meet
      exact ⟨_, rfl, rfl, HBZ.out.set7 _ _ _ _ _ _ _, (by (with_reducible repeat' (first | exact Gr.refl _ | refine Gr.set ?_ _ ?_ _ | refine Gr.alloc ?_ | refine Gr.drew ?_ | refine Gr.trans ?_ (by assumption))) <;> (first | (simp; done) | (simp; omega) | omega))⟩
  case rest =>
  obtain ⟨w6, rfl⟩ : ∃ x, x = wc := ⟨_, rfl⟩
  obtain ⟨Q, rfl, rfl, hQA, hg6⟩ := hcut
  have HQA : Hid (AccAt w6 Q (.string y.s) (.int .i64 y.a) (.int .i64 y.b) (.int .i64 y.c) (.int .i64 y.x) (.int .i64 y.y) (.int .i64 y.z)) := hQA
  have HB6 : Hid (TwoAt w6 w.heap.size (.slice (some ⟨bb, oo, none⟩) A.length capA) (.slice adM M.length capM)) := HB5.out.gr hg6
  have HX6 : Hid (BoxAt w6 (w.heap.size + 1) (.int .i64 k) (.string t) (.int .i64 n)) := HX5.out.gr hg6
  have HR6 : Hid (TwoAt w6 (w.heap.size + 1 + 1) (.slice none 0 0) (.slice none 0 0)) := HR5.out.gr hg6
  have g6 : Gr w w6 := g5.trans hg6
  clear hQA hg6 b0 b1 bl d0 d1 d2 d3 d4 d5 d6 a0 a1 a2 al HB5 HX5 HR5 g5 hbw HD
  obtain ⟨b0, b1, _, _, bl⟩ := HB6.out
  obtain ⟨a0, a1, a2, _, _, _, al⟩ := HX6.out
  obtain ⟨d0, d1, d2, d3, d4, d5, d6⟩ := HQA.out.cells
  have dl := HQA.out.lt
  go_wp2_with fail
  refine (HP.out _ g6).mono ?_
  rintro e w7 ⟨c1, e1, c2, e2, rfl, q1, q2, hg7, n1, n2⟩
  have HZ6 := HR6.out.lt
  have HQ1 : Hid (AccsAt w7 c1 XX) := q1
  have HQ2 : Hid (MksAt w7 c2 YY) := q2
  clear q1 q2
  have HR7 : Hid (TwoAt w7 (w.heap.size + 1 + 1) (.slice none 0 0) (.slice none 0 0)) := HR6.out.gr hg7
  have g7 : Gr w w7 := g6.trans hg7
  clear hg7 g6 b0 b1 bl a0 a1 a2 al d0 d1 d2 d3 d4 d5 d6 dl HB6 HX6 HR6 HQA
  obtain ⟨r0, r1, f0, f1, rl⟩ := HR7.out
  go_wp2
  exact bodyPost_ret (v := .tuple #[.agg #[.slice c1 XX.length e1, .slice c2 YY.length e2], .int .i64 0]) (by simp [results, Try.results21, go_sem, *]) rfl ⟨c1, e1, c2, e2, rfl, (RowAt.setFar HQ1.out _ _ (fun a e => by have := n1 a e; simp; omega)).setFar _ _ (fun a e => by have := n1 a e; simp; omega), (RowAt.setFar HQ2.out _ _ (fun a e => by have := n2 a e; simp; omega)).setFar _ _ (fun a e => by have := n2 a e; simp; omega), (g7.set _ (by simp; omega) _).set _ (by simp; omega) _⟩
end Go.Proofs.Ytgidkmipecfjhaa
namespace Go.Proofs.Ytgidkmipecfjhaa
open Go.RowKit
open Led (Acc Mk)
def LR (w : World) (X : List Acc) (Y : List Mk) (er : Int) (e : Ending) (w' : World) : Prop := ∃ b1 d1 b2 d2, e = .returned (.tuple #[.agg #[.slice b1 X.length d1, .slice b2 Y.length d2], .int .i64 er]) ∧ AccsAt w' b1 X ∧ MksAt w' b2 Y ∧ Gr w w'
theorem LR.no {w w' : World} {e : Ending} {er : Int} (h : e = .returned (.tuple #[.agg #[.slice none 0 0, .slice none 0 0], .int .i64 er]) ∧ Gr w w') : LR w [] [] er e w' := ⟨none, 0, none, 0, h.1, RowAt.nil, RowAt.nil, h.2⟩
theorem LR.own {w w' : World} {e : Ending} {X : List Acc} {Y : List Mk} (h : ∃ v1 v2, e = .returned (.tuple #[.agg #[v1, v2], .int .i64 0]) ∧ w'.ownsRow w.heap.size 31 7 v1 X.length (X.flatMap accC) ∧ w'.ownsRow w.heap.size 64 5 v2 Y.length (Y.flatMap mkC) ∧ Gr w w') : LR w X Y 0 e w' := by
  obtain ⟨v1, v2, rfl, h1, h2, h3⟩ := h
  obtain ⟨b1, d1, rfl, _, _, r1, _, _⟩ := own_row h1
  obtain ⟨b2, d2, rfl, _, _, r2, _, _⟩ := own_row h2
  exact ⟨b1, d1, b2, d2, rfl, r1, r2, h3⟩
theorem LR.opn {w w' : World} {e : Ending} {X : List Acc} {M : List Mk} {adM : Option Addr} {capM : Nat} (h : OpnR w X (.slice adM M.length capM) e w') (hm : MksAt w adM M) : LR w X M 0 e w' := by
  obtain ⟨b1, d1, rfl, h1, h2⟩ := h
  exact ⟨b1, d1, adM, capM, rfl, h1, RowAt.gr hm h2, h2⟩
def Alike (w : World) (f : Nat) (xs : Array Value) (g : Nat) (ys : Array Value) : Prop := ∃ (X : List Acc) (Y : List Mk) (er : Int), X.length ≤ 9223372036854775807 ∧ Y.length ≤ 9223372036854775807 ∧
  (∀ w', Gr w w' → Calls Try.prog f xs w' fun e w2 => LR w' X Y er e w2) ∧ (∀ w', Gr w w' → Calls Try.prog g ys w' fun e w2 => LR w' X Y er e w2)
theorem open_alike (A : List Acc) (M : List Mk) (s : ByteArray) (n : Int) (a1 : Option Addr) (c1 : Nat) (a2 : Option Addr) (c2 : Nat) (b1 : Option Addr) (d1 : Nat) (b2 : Option Addr) (d2 : Nat) (w : World) (h : LedAt w a1 a2 A M) (h' : LedAt w b1 b2 A M) (hs : s.size ≤ 9223372036854775807) :
    Alike w 18 #[.agg #[.slice a1 A.length c1, .slice a2 M.length c2], .string s, .int .i64 n] 19 #[.agg #[.slice b1 A.length d1, .slice b2 M.length d2], .string s, .int .i64 n] := by
  by_cases he : openE A M s n = 0
  · obtain ⟨_, _, _, _, hl12⟩ := open_parts he
    refine ⟨openA A s n, M, 0, by rw [open_len]; omega, h.lm, fun w' g => (open_yes A M s n a1 c1 a2 c2 w' (h.gr g) hs he).mono fun e w2 q => LR.own ?_, fun w' g => (refOpen_yes A M s n b1 d1 b2 d2 w' (h'.gr g) hs he).mono fun e w2 q => LR.opn q (h'.gr g).m⟩
    rw [open_len]; exact q
  · exact ⟨[], [], openE A M s n, by simp, by simp, fun w' g => (open_no A M s n a1 c1 a2 c2 w' (h.gr g) hs he).mono fun e w2 q => LR.no q, fun w' g => (refOpen_no A M s n b1 d1 b2 d2 w' (h'.gr g) hs he).mono fun e w2 q => LR.no q⟩
theorem refDo_all (A : List Acc) (M : List Mk) (key : ByteArray) (k n : Int) (t : ByteArray) (b1 : Option Addr) (d1 : Nat) (b2 : Option Addr) (d2 : Nat) (w : World) (h : LedAt w b1 b2 A M) (hs : key.size ≤ 9223372036854775807) (ht : t.size ≤ 9223372036854775807) :
    (doE A M key k t n ≠ 0 → Calls Try.prog 21 #[.agg #[.slice b1 A.length d1, .slice b2 M.length d2], .string key, .agg #[.int .i64 k, .string t, .int .i64 n]] w fun e w' => LR w [] [] (doE A M key k t n) e w') ∧
    (doE A M key k t n = 0 → Calls Try.prog 21 #[.agg #[.slice b1 A.length d1, .slice b2 M.length d2], .string key, .agg #[.int .i64 k, .string t, .int .i64 n]] w fun e w' => LR w (doA A M key k t n) (doM M key k t n) 0 e w') := by
  cases hall : (Led.mayB A M && Led.keyB key && Act.actB k t n) with
  | false =>
    have hne : doE A M key k t n ≠ 0 := by
      unfold doE
      cases h1 : (Led.mayB A M && Led.keyB key) with
      | false => simp
      | true => rw [h1, Bool.true_and] at hall; rw [hall]; simp
    exact ⟨fun _ => (refDo_no1 A M key k n t b1 d1 b2 d2 w h hs ht hall).mono fun e w2 q => LR.no q, fun e => absurd e hne⟩
  | true =>
    have h1 : (Led.mayB A M && Led.keyB key) = true := by simp only [Bool.and_eq_true] at hall ⊢; exact hall.1
    have h2 : Act.actB k t n = true := by simp only [Bool.and_eq_true] at hall; exact hall.2
    cases hh : Led.hasB (Led.ky M) key with
    | true =>
      cases hns : sameB (atM M key) k t n with
      | true =>
        have e0 : doE A M key k t n = 0 := by unfold doE; rw [if_pos h1, if_pos h2, if_pos hh, if_pos hns]
        have eA : doA A M key k t n = A := by unfold doA; rw [if_pos hh]
        have eM : doM M key k t n = M := by unfold doM; rw [if_pos hh]
        rw [eA, eM]
        exact ⟨fun e => absurd e0 e, fun _ => (refDo_yes1 A M key k n t b1 d1 b2 d2 w h hs ht hall hh hns).mono fun e w2 q => q⟩
      | false =>
        have e0 : doE A M key k t n = 72 := by unfold doE; rw [if_pos h1, if_pos h2, if_pos hh, if_neg (by rw [hns]; simp)]
        rw [e0]
        exact ⟨fun _ => (refDo_no3 A M key k n t b1 d1 b2 d2 w h hs ht hall hh hns).mono fun e w2 q => LR.no q, fun e => by cases e⟩
    | false =>
      have e0 : doE A M key k t n = begE A M k t n := by unfold doE; rw [if_pos h1, if_pos h2, if_neg (by rw [hh]; simp)]
      have eA : doA A M key k t n = A.set (Led.pos (Led.nm A) t) (mvA Act.chDo (atA A t) k n) := by unfold doA; rw [if_neg (by rw [hh]; simp)]
      have eM : doM M key k t n = insK M ⟨key, k, t, n, 1⟩ := by unfold doM; rw [if_neg (by rw [hh]; simp)]
      rw [e0, eA, eM]
      exact ⟨fun he => (refDo_no2 A M key k n t b1 d1 b2 d2 w h hs ht hall hh he).mono fun e w2 q => LR.no q, fun he => (refDo_yes2 A M key k n t b1 d1 b2 d2 w h hs ht hall hh he).mono fun e w2 q => q⟩
theorem do_alike (A : List Acc) (M : List Mk) (key : ByteArray) (k n : Int) (t : ByteArray) (a1 : Option Addr) (c1 : Nat) (a2 : Option Addr) (c2 : Nat) (b1 : Option Addr) (d1 : Nat) (b2 : Option Addr) (d2 : Nat) (w : World) (h : LedAt w a1 a2 A M) (h' : LedAt w b1 b2 A M) (hs : key.size ≤ 9223372036854775807) (ht : t.size ≤ 9223372036854775807) :
    Alike w 20 #[.agg #[.slice a1 A.length c1, .slice a2 M.length c2], .string key, .agg #[.int .i64 k, .string t, .int .i64 n]] 21 #[.agg #[.slice b1 A.length d1, .slice b2 M.length d2], .string key, .agg #[.int .i64 k, .string t, .int .i64 n]] := by
  by_cases he : doE A M key k t n = 0
  · have hlm : M.length ≤ 500 := by
      have hm : Led.mayB A M = true := by
        unfold doE at he
        by_cases h1 : (Led.mayB A M && Led.keyB key) = true
        · simp only [Bool.and_eq_true] at h1; exact h1.1
        · rw [if_neg h1] at he; cases he
      exact ((Led.may_iff A M).1 hm).lm
    refine ⟨doA A M key k t n, doM M key k t n, 0, ?_, ?_, fun w' g => (do_yes A M key k n t a1 c1 a2 c2 w' (h.gr g) hs ht he).mono fun e w2 q => LR.own q, fun w' g => (refDo_all A M key k n t b1 d1 b2 d2 w' (h'.gr g) hs ht).2 he⟩
    · unfold doA; split
      · exact h.la
      · rw [List.length_set]; exact h.la
    · unfold doM; split
      · exact h.lm
      · rw [insK_len]; omega
  · exact ⟨[], [], doE A M key k t n, by simp, by simp, fun w' g => (do_no A M key k n t a1 c1 a2 c2 w' (h.gr g) hs ht he).mono fun e w2 q => LR.no q, fun w' g => (refDo_all A M key k n t b1 d1 b2 d2 w' (h'.gr g) hs ht).1 he⟩
theorem refEndU_all (A : List Acc) (M : List Mk) (key : ByteArray) (b1 : Option Addr) (d1 : Nat) (b2 : Option Addr) (d2 : Nat) (w : World) (h : LedAt w b1 b2 A M) (hs : key.size ≤ 9223372036854775807) :
    (endE Act.chUn 2 A M key ≠ 0 → Calls Try.prog 23 #[.int .i64 2, .agg #[.slice b1 A.length d1, .slice b2 M.length d2], .string key] w fun e w' => LR w [] [] (endE Act.chUn 2 A M key) e w') ∧
    (endE Act.chUn 2 A M key = 0 → Calls Try.prog 23 #[.int .i64 2, .agg #[.slice b1 A.length d1, .slice b2 M.length d2], .string key] w fun e w' => LR w (endA Act.chUn 2 A M key) (endM 2 M key) 0 e w') := by
  cases hall : (Led.mayB A M && Led.keyB key) with
  | false =>
    have e0 : endE Act.chUn 2 A M key = 2 := by unfold endE; rw [if_neg (by rw [hall]; simp)]
    rw [e0]
    exact ⟨fun _ => (refEndU_no1 A M key b1 d1 b2 d2 w h hs hall).mono fun e w2 q => LR.no q, fun e => by cases e⟩
  | true =>
    cases hh : Led.hasB (Led.ky M) key with
    | false =>
      have e0 : endE Act.chUn 2 A M key = 70 := by unfold endE; rw [if_pos hall, if_neg (by rw [hh]; simp)]
      rw [e0]
      exact ⟨fun _ => (refEndU_no2 A M key b1 d1 b2 d2 w h hs hall hh).mono fun e w2 q => LR.no q, fun e => by cases e⟩
    | true =>
      by_cases h2 : (atM M key).st = 2
      · have e0 : endE Act.chUn 2 A M key = 0 := by unfold endE; rw [if_pos hall, if_pos hh, if_pos h2]
        have eA : endA Act.chUn 2 A M key = A := by unfold endA; rw [if_pos h2]
        have eM : endM 2 M key = M := by unfold endM; rw [if_pos h2]
        rw [eA, eM]
        exact ⟨fun e => absurd e0 e, fun _ => (refEndU_yes1 A M key b1 d1 b2 d2 w h hs hall hh h2).mono fun e w2 q => q⟩
      · by_cases h1 : (atM M key).st = 1
        · have e0 : endE Act.chUn 2 A M key = mvX Act.chUn (atA A (atM M key).t) (atM M key).k (atM M key).t (atM M key).n := by unfold endE; rw [if_pos hall, if_pos hh, if_neg h2, if_pos h1]
          have eA : endA Act.chUn 2 A M key = A.set (Led.pos (Led.nm A) (atM M key).t) (mvA Act.chUn (atA A (atM M key).t) (atM M key).k (atM M key).n) := by unfold endA; rw [if_neg h2]
          have eM : endM 2 M key = M.set (Led.pos (Led.ky M) key) { atM M key with st := 2 } := by unfold endM; rw [if_neg h2]
          rw [e0, eA, eM]
          exact ⟨fun he => (refEndU_no4 A M key b1 d1 b2 d2 w h hs hall hh h1 he).mono fun e w2 q => LR.no q, fun he => (refEndU_yes2 A M key b1 d1 b2 d2 w h hs hall hh h1 he).mono fun e w2 q => q⟩
        · have e0 : endE Act.chUn 2 A M key = 72 := by unfold endE; rw [if_pos hall, if_pos hh, if_neg h2, if_neg h1]
          rw [e0]
          exact ⟨fun _ => (refEndU_no3 A M key b1 d1 b2 d2 w h hs hall hh h2 h1).mono fun e w2 q => LR.no q, fun e => by cases e⟩
theorem endU_alike (A : List Acc) (M : List Mk) (key : ByteArray) (a1 : Option Addr) (c1 : Nat) (a2 : Option Addr) (c2 : Nat) (b1 : Option Addr) (d1 : Nat) (b2 : Option Addr) (d2 : Nat) (w : World) (h : LedAt w a1 a2 A M) (h' : LedAt w b1 b2 A M) (hs : key.size ≤ 9223372036854775807) :
    Alike w 22 #[.agg #[.slice a1 A.length c1, .slice a2 M.length c2], .string key] 23 #[.int .i64 2, .agg #[.slice b1 A.length d1, .slice b2 M.length d2], .string key] := by
  by_cases he : endE Act.chUn 2 A M key = 0
  · exact ⟨endA Act.chUn 2 A M key, endM 2 M key, 0, by rw [endA_len]; exact h.la, by rw [endM_len]; exact h.lm, fun w' g => (ownU_yes A M key a1 c1 a2 c2 w' (h.gr g) hs he).mono fun e w2 q => LR.own q, fun w' g => (refEndU_all A M key b1 d1 b2 d2 w' (h'.gr g) hs).2 he⟩
  · exact ⟨[], [], endE Act.chUn 2 A M key, by simp, by simp, fun w' g => (ownU_no A M key a1 c1 a2 c2 w' (h.gr g) hs he).mono fun e w2 q => LR.no q, fun w' g => (refEndU_all A M key b1 d1 b2 d2 w' (h'.gr g) hs).1 he⟩
theorem refEndK_all (A : List Acc) (M : List Mk) (key : ByteArray) (b1 : Option Addr) (d1 : Nat) (b2 : Option Addr) (d2 : Nat) (w : World) (h : LedAt w b1 b2 A M) (hs : key.size ≤ 9223372036854775807) :
    (endE Act.chKe 3 A M key ≠ 0 → Calls Try.prog 23 #[.int .i64 3, .agg #[.slice b1 A.length d1, .slice b2 M.length d2], .string key] w fun e w' => LR w [] [] (endE Act.chKe 3 A M key) e w') ∧
    (endE Act.chKe 3 A M key = 0 → Calls Try.prog 23 #[.int .i64 3, .agg #[.slice b1 A.length d1, .slice b2 M.length d2], .string key] w fun e w' => LR w (endA Act.chKe 3 A M key) (endM 3 M key) 0 e w') := by
  cases hall : (Led.mayB A M && Led.keyB key) with
  | false =>
    have e0 : endE Act.chKe 3 A M key = 2 := by unfold endE; rw [if_neg (by rw [hall]; simp)]
    rw [e0]
    exact ⟨fun _ => (refEndK_no1 A M key b1 d1 b2 d2 w h hs hall).mono fun e w2 q => LR.no q, fun e => by cases e⟩
  | true =>
    cases hh : Led.hasB (Led.ky M) key with
    | false =>
      have e0 : endE Act.chKe 3 A M key = 70 := by unfold endE; rw [if_pos hall, if_neg (by rw [hh]; simp)]
      rw [e0]
      exact ⟨fun _ => (refEndK_no2 A M key b1 d1 b2 d2 w h hs hall hh).mono fun e w2 q => LR.no q, fun e => by cases e⟩
    | true =>
      by_cases h2 : (atM M key).st = 3
      · have e0 : endE Act.chKe 3 A M key = 0 := by unfold endE; rw [if_pos hall, if_pos hh, if_pos h2]
        have eA : endA Act.chKe 3 A M key = A := by unfold endA; rw [if_pos h2]
        have eM : endM 3 M key = M := by unfold endM; rw [if_pos h2]
        rw [eA, eM]
        exact ⟨fun e => absurd e0 e, fun _ => (refEndK_yes1 A M key b1 d1 b2 d2 w h hs hall hh h2).mono fun e w2 q => q⟩
      · by_cases h1 : (atM M key).st = 1
        · have e0 : endE Act.chKe 3 A M key = mvX Act.chKe (atA A (atM M key).t) (atM M key).k (atM M key).t (atM M key).n := by unfold endE; rw [if_pos hall, if_pos hh, if_neg h2, if_pos h1]
          have eA : endA Act.chKe 3 A M key = A.set (Led.pos (Led.nm A) (atM M key).t) (mvA Act.chKe (atA A (atM M key).t) (atM M key).k (atM M key).n) := by unfold endA; rw [if_neg h2]
          have eM : endM 3 M key = M.set (Led.pos (Led.ky M) key) { atM M key with st := 3 } := by unfold endM; rw [if_neg h2]
          rw [e0, eA, eM]
          exact ⟨fun he => (refEndK_no4 A M key b1 d1 b2 d2 w h hs hall hh h1 he).mono fun e w2 q => LR.no q, fun he => (refEndK_yes2 A M key b1 d1 b2 d2 w h hs hall hh h1 he).mono fun e w2 q => q⟩
        · have e0 : endE Act.chKe 3 A M key = 72 := by unfold endE; rw [if_pos hall, if_pos hh, if_neg h2, if_neg h1]
          rw [e0]
          exact ⟨fun _ => (refEndK_no3 A M key b1 d1 b2 d2 w h hs hall hh h2 h1).mono fun e w2 q => LR.no q, fun e => by cases e⟩
theorem endK_alike (A : List Acc) (M : List Mk) (key : ByteArray) (a1 : Option Addr) (c1 : Nat) (a2 : Option Addr) (c2 : Nat) (b1 : Option Addr) (d1 : Nat) (b2 : Option Addr) (d2 : Nat) (w : World) (h : LedAt w a1 a2 A M) (h' : LedAt w b1 b2 A M) (hs : key.size ≤ 9223372036854775807) :
    Alike w 24 #[.agg #[.slice a1 A.length c1, .slice a2 M.length c2], .string key] 23 #[.int .i64 3, .agg #[.slice b1 A.length d1, .slice b2 M.length d2], .string key] := by
  by_cases he : endE Act.chKe 3 A M key = 0
  · exact ⟨endA Act.chKe 3 A M key, endM 3 M key, 0, by rw [endA_len]; exact h.la, by rw [endM_len]; exact h.lm, fun w' g => (ownK_yes A M key a1 c1 a2 c2 w' (h.gr g) hs he).mono fun e w2 q => LR.own q, fun w' g => (refEndK_all A M key b1 d1 b2 d2 w' (h'.gr g) hs).2 he⟩
  · exact ⟨[], [], endE Act.chKe 3 A M key, by simp, by simp, fun w' g => (ownK_no A M key a1 c1 a2 c2 w' (h.gr g) hs he).mono fun e w2 q => LR.no q, fun w' g => (refEndK_all A M key b1 d1 b2 d2 w' (h'.gr g) hs).1 he⟩
end Go.Proofs.Ytgidkmipecfjhaa
namespace Go.Proofs.Ytgidkmipecfjhaa
open Go.RowKit
theorem run_copy {P : Program} {w : World} (t ty e : TypeId) (i : TypeInfo) (z : Value) (size bytes : Nat) (ht : P.underlying t = some (.slice e)) (hi : P.info? e = some i) (hz : i.zero = some z) (hsize : i.size = size) (hby : i.bytes = bytes) (hsz : 0 < size)
    (g : Nat) {α : Type} {f : α → List Value} (hf : ∀ x, (f x).length = size) (L : List α) (ad : Option Addr) (c : Nat) (row : RowAt f w ad L) (h63 : L.length ≤ 9223372036854775807) (hbytes : L.length * bytes ≤ 140737488355328) (hlt : g < w.heap.size) :
    ∃ a' c' w', (Builtin.append_ #[t, t] ty #[.slice (some ⟨g, 0, none⟩) 0 0, .slice ad L.length c]).run P w = .ok (.slice a' L.length c') w' ∧ RowAt f w' a' L ∧ Gr w w' ∧ (∀ p, a' = some p → p.block < w'.heap.size ∧ (p.block = g ∨ p.block = w.heap.size)) := by
  subst hsize
  subst hby
  cases L with
  | nil =>
    refine ⟨some ⟨g, 0, none⟩, 0, w, ?_, RowAt.nil, Gr.refl _, fun p e => by cases e; exact ⟨hlt, Or.inl rfl⟩⟩
    cases ad with
    | none => simp [Builtin.append_, run_underlying ht, sizeOf, typeInfo, hi, Builtin.lenOf, Builtin.firstCells, storeCells]
    | some a => simp [Builtin.append_, run_underlying ht, sizeOf, typeInfo, hi, Builtin.lenOf, Builtin.firstCells, storeCells, loadCells, loadCellsFrom]
  | cons x l =>
    cases ad with
    | none => have := RowAt.none hf hsz row; cases this
    | some a =>
      have hl : ((x :: l).flatMap f).length = (x :: l).length * i.size := flat_len hf _
      have hr := run_append_grow (P := P) w t ty e i z ht hi hz ⟨g, 0, none⟩ 0 0 [] (by simp) (by simp) a (x :: l).length c ((x :: l).flatMap f) hl row.news (by simp) (by simp at h63 ⊢; omega) (growslice_fits (by simp) (by simpa using hbytes))
      rw [Nat.zero_add] at hr
      refine ⟨_, _, _, hr, ?_, (Gr.refl _).drew.alloc, fun p e => by cases e; exact ⟨by simp, Or.inr rfl⟩⟩
      intro j u hu
      refine ⟨w.heap.size, 0, rfl, by simp, ?_⟩
      rw [Nat.zero_add]
      refine (World.cell?_alloc_at _ _ w.heap.size j (by simp)).trans ?_
      have hj : j < ((x :: l).flatMap f).length := by
        rcases Nat.lt_or_ge j ((x :: l).flatMap f).length with h | h
        · exact h
        · rw [List.getElem?_eq_none h] at hu; cases hu
      rw [Array.getElem?_append_left (by simpa using hj)]
      simpa using hu
theorem step_copy {P : Program} {w : World} {ops : Array Oper} {o : Oper} {a : Act} {K : Act → World → Prop} {Q : Exit → Act → World → Prop} {E : Prop} (hgd : o.guard = none) (s x : Operand) (t : TypeId)
    (ho : o.op = .call { callee := .builtin .append, args := #[s, x], argTypes := #[t, t] })
    (e : TypeId) (i : TypeInfo) (z : Value) (size bytes : Nat) (ht : P.underlying t = some (.slice e)) (hi : P.info? e = some i) (hz : i.zero = some z) (hsize : i.size = size) (hby : i.bytes = bytes) (hsz : 0 < size)
    (g : Nat) (hs : a.eval s = .slice (some ⟨g, 0, none⟩) 0 0) {α : Type} {f : α → List Value} (hf : ∀ x, (f x).length = size) (L : List α) (ad : Option Addr) (c : Nat) (hx : a.eval x = .slice ad L.length c) (row : RowAt f w ad L) (h63 : L.length ≤ 9223372036854775807) (hbytes : L.length * bytes ≤ 140737488355328) (hlt : g < w.heap.size)
    (h : ∀ a' c' w', RowAt f w' a' L → Gr w w' → (∀ p, a' = some p → p.block < w'.heap.size ∧ (p.block = g ∨ p.block = w.heap.size)) → K (a.put o.dst (.slice a' L.length c')) w') :
    if Region.wanted o (yielded ops a.tmps) = true then Oper.wp P o a w K Q else E := by
  have hw : Region.wanted o (yielded ops a.tmps) = true := by simp [Region.wanted, hgd]
  rw [if_pos hw]
  obtain ⟨a', c', w', hr, h1, h2, h3⟩ := run_copy (P := P) (w := w) t o.type e i z size bytes ht hi hz hsize hby hsz g hf L ad c row h63 hbytes hlt
  unfold Oper.wp execOp
  simp only [ho, resolve, invoke, builtin, Sem.run_bind, Sem.run_pure, Result.andThen_ok, List.map_toArray, List.map_cons, List.map_nil, hs, hx, hr]
  exact h a' c' w' h1 h2 h3
end Go.Proofs.Ytgidkmipecfjhaa
namespace Go.Proofs.Ytgidkmipecfjhaa
open Go.RowKit
open Led (Acc Mk)
structure Cal where
  kd : Int
  key : ByteArray
  k : Int
  t : ByteArray
  n : Int
theorem may_ranges {A : List Acc} {M : List Mk} (hm : Led.May A M) : (∀ x ∈ A, inA x) ∧ (∀ m ∈ M, inM m) := by
  refine ⟨fun x hx => ?_, fun m hx => ?_⟩
  · have h := hm.oa x hx
    have r := Act.acc_rng h
    have n := (Act.name_pos ((Act.acc_iff _ _ _ _ _ _ _).1 h).1).2
    unfold inA inI
    omega
  · obtain ⟨h1, h2, _, h4⟩ := (Led.mk_iff A m).1 (hm.om m hx)
    obtain ⟨⟨k1, k2⟩, hn, n1, n2⟩ := (Act.act_iff _ _ _).1 h2
    have n := (Act.name_pos hn).2
    unfold inM inI
    omega
theorem led_of {w : World} {a1 a2 : Option Addr} {A : List Acc} {M : List Mk} (hm : Led.May A M) (h1 : AccsAt w a1 A) (h2 : MksAt w a2 M) : LedAt w a1 a2 A M :=
  ⟨h1, h2, (may_ranges hm).1, (may_ranges hm).2, by have := hm.la; omega, by have := hm.lm; omega⟩
end Go.Proofs.Ytgidkmipecfjhaa
namespace Go.Proofs.Ytgidkmipecfjhaa
open Go.RowKit
open Led (Acc Mk)
abbrev cashS : ByteArray := ⟨#[99, 97, 115, 104]⟩
abbrev keyS : ByteArray := ⟨#[107]⟩
theorem pos_one (s : ByteArray) : Led.pos [s] s = 0 := by unfold Led.pos; simp [Led.lt_irrefl]
def A1 : List Acc := [⟨cashS, 10, 0, 0, 0, 0, 0⟩]
def A2 : List Acc := [⟨cashS, 6, 0, 4, 0, 0, 0⟩]
def M1 : List Mk := [⟨keyS, 1, cashS, 4, 1⟩]
def M2 : List Mk := [⟨keyS, 1, cashS, 4, 2⟩]
theorem awk_open : openE [] [] cashS 10 = 0 := by decide +kernel
theorem awk_openA : openA [] cashS 10 = A1 := rfl
theorem atA1 : atA A1 cashS = ⟨cashS, 10, 0, 0, 0, 0, 0⟩ := by
  unfold atA; rw [show Led.nm A1 = [cashS] from rfl, pos_one]; rfl
theorem atA2 : atA A2 cashS = ⟨cashS, 6, 0, 4, 0, 0, 0⟩ := by
  unfold atA; rw [show Led.nm A2 = [cashS] from rfl, pos_one]; rfl
theorem atM1 : atM M1 keyS = ⟨keyS, 1, cashS, 4, 1⟩ := by
  unfold atM; rw [show Led.ky M1 = [keyS] from rfl, pos_one]; rfl
theorem awk_do : doE A1 [] keyS 1 cashS 4 = 0 := by
  have h1 : (Led.mayB A1 [] && Led.keyB keyS) = true := by decide +kernel
  have h2 : Act.actB 1 cashS 4 = true := by decide +kernel
  have h3 : Led.hasB (Led.ky []) keyS = false := rfl
  have h4 : Led.hasB (Led.nm A1) cashS = true := by decide +kernel
  unfold doE begE
  rw [if_pos h1, if_pos h2, h3, if_neg (by decide), if_pos h4, if_neg (by decide), atA1]
  decide +kernel
theorem awk_doA : doA A1 [] keyS 1 cashS 4 = A2 := by
  unfold doA
  rw [if_neg (show ¬ Led.hasB (Led.ky []) keyS = true by decide), atA1, show Led.nm A1 = [cashS] from rfl, pos_one]
  rfl
theorem awk_doM : doM [] keyS 1 cashS 4 = M1 := by
  unfold doM
  rw [if_neg (show ¬ Led.hasB (Led.ky []) keyS = true by decide)]
  rfl
theorem awk_may2 : Led.May A2 M1 := by have := do_may awk_do; rw [awk_doA, awk_doM] at this; exact this
theorem awk_again : doE A2 M1 keyS 1 cashS 4 = 0 ∧ doA A2 M1 keyS 1 cashS 4 = A2 ∧ doM M1 keyS 1 cashS 4 = M1 := by
  have := do_again awk_do; rw [awk_doA, awk_doM] at this; exact this
theorem awk_five : doE A2 M1 keyS 1 cashS 5 = 72 := by
  have h1 : (Led.mayB A2 M1 && Led.keyB keyS) = true := by rw [(Led.may_iff _ _).2 awk_may2]; decide +kernel
  have h2 : Act.actB 1 cashS 5 = true := by decide +kernel
  have h3 : Led.hasB (Led.ky M1) keyS = true := by decide +kernel
  unfold doE
  rw [if_pos h1, if_pos h2, if_pos h3, atM1, if_neg (by decide +kernel)]
theorem awk_end : endE Act.chUn 2 A2 M1 keyS = 0 := by
  have h1 : (Led.mayB A2 M1 && Led.keyB keyS) = true := by rw [(Led.may_iff _ _).2 awk_may2]; decide +kernel
  have h3 : Led.hasB (Led.ky M1) keyS = true := by decide +kernel
  unfold endE
  rw [if_pos h1, if_pos h3, atM1, if_neg (by decide), if_pos rfl, atA2]
  decide +kernel
theorem awk_endA : endA Act.chUn 2 A2 M1 keyS = A1 := by
  unfold endA
  rw [atM1, if_neg (by decide), atA2, show Led.nm A2 = [cashS] from rfl, pos_one]
  rfl
theorem awk_endM : endM 2 M1 keyS = M2 := by
  unfold endM
  rw [atM1, if_neg (by decide), show Led.ky M1 = [keyS] from rfl, pos_one]
  rfl
theorem awk_may3 : Led.May A1 M2 := by have := end_may (Or.inl ⟨rfl, rfl⟩) awk_end; rw [awk_endA, awk_endM] at this; exact this
theorem awk_find : findE A2 M1 cashS = ⟨cashS, 6, 0, 4, 0, 0, 0⟩ ∧ findB A2 M1 cashS = true := by
  have h4 : Led.hasB (Led.nm A2) cashS = true := by decide +kernel
  unfold findE findB
  rw [(Led.may_iff _ _).2 awk_may2, h4, if_pos rfl, if_pos rfl, show Led.nm A2 = [cashS] from rfl, pos_one]
  exact ⟨rfl, rfl⟩
theorem awk_state : stateE A1 M2 keyS = 2 := by
  have h4 : Led.hasB (Led.ky M2) keyS = true := by decide +kernel
  unfold stateE
  rw [(Led.may_iff _ _).2 awk_may3, h4, if_pos rfl, if_pos rfl, show Led.ky M2 = [keyS] from rfl, pos_one]
  rfl
theorem awk_none : mayL [accZ] [] = 2 := by decide +kernel
theorem awkOpen (w : World) : Calls Try.prog 18 #[.agg #[.slice none 0 0, .slice none 0 0], .string ⟨#[99, 97, 115, 104]⟩, .int .i64 10] w fun e w' => ∃ a1 c1 a2 c2, e = .returned (.tuple #[.agg #[.slice a1 1 c1, .slice a2 0 c2], .int .i64 0]) ∧ LedAt w' a1 a2 A1 [] ∧ Gr w w' :=
  (open_yes [] [] cashS 10 none 0 none 0 w ⟨RowAt.nil, RowAt.nil, by simp, by simp, by simp, by simp⟩ (by decide) awk_open).mono (by
    rintro e w2 ⟨v1, v2, rfl, o1, o2, g2⟩
    rw [awk_openA] at o1
    have o1 : w2.ownsRow w.heap.size _ 7 v1 A1.length (A1.flatMap accC) := o1
    obtain ⟨a1, c1, rfl, _, _, q1, _, _⟩ := own_row o1
    obtain ⟨a2, c2, rfl, _, _, q2, _, _⟩ := own_row o2
    exact ⟨a1, c1, a2, c2, rfl, led_of (by have := open_may awk_open; rw [awk_openA] at this; exact this) q1 q2, g2⟩)
theorem awkDo (a1 : Option Addr) (c1 : Nat) (a2 : Option Addr) (c2 : Nat) (w : World) (h : LedAt w a1 a2 A1 []) : Calls Try.prog 20 #[.agg #[.slice a1 1 c1, .slice a2 0 c2], .string ⟨#[107]⟩, .agg #[.int .i64 1, .string ⟨#[99, 97, 115, 104]⟩, .int .i64 4]] w fun e w' => ∃ a1 c1 a2 c2, e = .returned (.tuple #[.agg #[.slice a1 1 c1, .slice a2 1 c2], .int .i64 0]) ∧ LedAt w' a1 a2 A2 M1 ∧ (∀ a, a1 = some a → w.heap.size ≤ a.block) ∧ (∀ a, a2 = some a → w.heap.size ≤ a.block) ∧ Gr w w' :=
  (do_yes A1 [] keyS 1 4 cashS a1 c1 a2 c2 w h (by decide) (by decide) awk_do).mono (by
    rintro e w2 ⟨v1, v2, rfl, o1, o2, g2⟩
    rw [awk_doA] at o1
    rw [awk_doM] at o2
    obtain ⟨a1, c1, rfl, _, _, q1, n1, _⟩ := own_row o1
    obtain ⟨a2, c2, rfl, _, _, q2, n2, _⟩ := own_row o2
    exact ⟨a1, c1, a2, c2, rfl, led_of awk_may2 q1 q2, n1, n2, g2⟩)
theorem awkDo2 (a1 : Option Addr) (c1 : Nat) (a2 : Option Addr) (c2 : Nat) (w : World) (h : LedAt w a1 a2 A2 M1) : Calls Try.prog 20 #[.agg #[.slice a1 1 c1, .slice a2 1 c2], .string ⟨#[107]⟩, .agg #[.int .i64 1, .string ⟨#[99, 97, 115, 104]⟩, .int .i64 4]] w fun e w' => ∃ a1 c1 a2 c2, e = .returned (.tuple #[.agg #[.slice a1 1 c1, .slice a2 1 c2], .int .i64 0]) ∧ LedAt w' a1 a2 A2 M1 ∧ (∀ a, a1 = some a → w.heap.size ≤ a.block) ∧ (∀ a, a2 = some a → w.heap.size ≤ a.block) ∧ Gr w w' :=
  (do_yes A2 M1 keyS 1 4 cashS a1 c1 a2 c2 w h (by decide) (by decide) awk_again.1).mono (by
    rintro e w2 ⟨v1, v2, rfl, o1, o2, g2⟩
    rw [awk_again.2.1] at o1
    rw [awk_again.2.2] at o2
    obtain ⟨a1, c1, rfl, _, _, q1, n1, _⟩ := own_row o1
    obtain ⟨a2, c2, rfl, _, _, q2, n2, _⟩ := own_row o2
    exact ⟨a1, c1, a2, c2, rfl, led_of awk_may2 q1 q2, n1, n2, g2⟩)
theorem awkDo3 (a1 : Option Addr) (c1 : Nat) (a2 : Option Addr) (c2 : Nat) (w : World) (h : LedAt w a1 a2 A2 M1) : Calls Try.prog 20 #[.agg #[.slice a1 1 c1, .slice a2 1 c2], .string ⟨#[107]⟩, .agg #[.int .i64 1, .string ⟨#[99, 97, 115, 104]⟩, .int .i64 5]] w fun e w' => e = .returned (.tuple #[.agg #[.slice none 0 0, .slice none 0 0], .int .i64 72]) ∧ Gr w w' := by
  have := do_no A2 M1 keyS 1 5 cashS a1 c1 a2 c2 w h (by decide) (by decide) (by rw [awk_five]; decide)
  rw [awk_five] at this
  exact this
theorem awkUndo (a1 : Option Addr) (c1 : Nat) (a2 : Option Addr) (c2 : Nat) (w : World) (h : LedAt w a1 a2 A2 M1) : Calls Try.prog 22 #[.agg #[.slice a1 1 c1, .slice a2 1 c2], .string ⟨#[107]⟩] w fun e w' => ∃ a1 c1 a2 c2, e = .returned (.tuple #[.agg #[.slice a1 1 c1, .slice a2 1 c2], .int .i64 0]) ∧ LedAt w' a1 a2 A1 M2 ∧ Gr w w' :=
  (ownU_yes A2 M1 keyS a1 c1 a2 c2 w h (by decide) awk_end).mono (by
    rintro e w2 ⟨v1, v2, rfl, o1, o2, g2⟩
    rw [awk_endA] at o1
    rw [awk_endM] at o2
    obtain ⟨a1, c1, rfl, _, _, q1, _, _⟩ := own_row o1
    obtain ⟨a2, c2, rfl, _, _, q2, _, _⟩ := own_row o2
    exact ⟨a1, c1, a2, c2, rfl, led_of awk_may3 q1 q2, g2⟩)
theorem awkFind (a1 : Option Addr) (c1 : Nat) (a2 : Option Addr) (c2 : Nat) (w : World) (h : LedAt w a1 a2 A2 M1) : Calls Try.prog 10 #[.agg #[.slice a1 1 c1, .slice a2 1 c2], .string ⟨#[99, 97, 115, 104]⟩] w fun e w' => e = .returned (.tuple #[.agg #[.string ⟨#[99, 97, 115, 104]⟩, .int .i64 6, .int .i64 0, .int .i64 4, .int .i64 0, .int .i64 0, .int .i64 0], .bool true]) ∧ Gr w w' := by
  have := find7_any A2 M1 cashS a1 c1 a2 c2 w h
  rw [awk_find.1, awk_find.2] at this
  exact this
theorem awkState (a1 : Option Addr) (c1 : Nat) (a2 : Option Addr) (c2 : Nat) (w : World) (h : LedAt w a1 a2 A1 M2) : Calls Try.prog 16 #[.agg #[.slice a1 1 c1, .slice a2 1 c2], .string ⟨#[107]⟩] w fun e w' => e = .returned (.int .i64 2) ∧ Gr w w' := by
  have := state7_any A1 M2 keyS a1 c1 a2 c2 w h
  rw [awk_state] at this
  exact this
theorem awkMay (a1 : Option Addr) (c1 : Nat) (a2 : Option Addr) (c2 : Nat) (w : World) (h : AccsAt w a1 [accZ]) : Calls Try.prog 14 #[.agg #[.slice a1 1 c1, .slice a2 0 c2]] w fun e w' => e = .returned (.int .i64 2) ∧ Gr w w' := by
  have := may7_any [accZ] [] a1 c1 a2 c2 w h RowAt.nil (by intro x hx; simp at hx; subst hx; unfold inA inI accZ; decide +kernel) (by simp) (by simp) (by simp)
  rw [awk_none] at this
  exact this
end Go.Proofs.Ytgidkmipecfjhaa
