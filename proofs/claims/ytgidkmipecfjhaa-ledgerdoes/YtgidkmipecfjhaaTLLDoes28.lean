/- What the proof is made of, part 28. -/
import Derived.Test.YtgidkmipecfjhaaTLLDoes27
namespace Go.Proofs.Ytgidkmipecfjhaa
open Go.RowKit
open Led (Acc Mk)
def DoR (w : World) (X : List Acc) (Y : List Mk) (e : Ending) (w' : World) : Prop := ∃ b1 d1 b2 d2, e = .returned (.tuple #[.agg #[.slice b1 X.length d1, .slice b2 Y.length d2], .int .i64 0]) ∧ AccsAt w' b1 X ∧ MksAt w' b2 Y ∧ Gr w w'
theorem refDoX (v : Int) (C : Act.Ch) (x : Acc) (k n : Int) (t : ByteArray) (w : World) (hs : x.s.size ≤ 9223372036854775807) (ht : t.size ≤ 9223372036854775807)
    (HP : Hid (∀ (h i o : Int) (out : Bool) (w' : World), Calls Try.prog 85 #[.int .i64 v, .agg #[.int .i64 h, .int .i64 i, .int .i64 o], .bool out, .int .i64 n] w' fun e w2 => e = .returned (.tuple #[.agg #[.int .i64 (C.h out h i o n), .int .i64 (C.i out h i o n), .int .i64 (C.o out h i o n)], .int .i64 (C.e out h i o n)]) ∧ Gr w' w2)) :
    Calls Try.prog 58 #[.int .i64 v, .agg #[.string x.s, .int .i64 x.a, .int .i64 x.b, .int .i64 x.c, .int .i64 x.x, .int .i64 x.y, .int .i64 x.z], .agg #[.int .i64 k, .string t, .int .i64 n]] w fun e w' =>
      e = .returned (.tuple #[.agg #[.string (mvY C x k t n).s, .int .i64 (mvY C x k t n).a, .int .i64 (mvY C x k t n).b, .int .i64 (mvY C x k t n).c, .int .i64 (mvY C x k t n).x, .int .i64 (mvY C x k t n).y, .int .i64 (mvY C x k t n).z], .int .i64 (mvX C x k t n)]) ∧ Gr w w' :=
  refDoes_any v C x.s x.a x.b x.c x.x x.y x.z k n t w hs ht HP
theorem holdD8 {a b : World} (g : Gr a b) {q0 q1 q2 q3 q4 q5 q6 q7 : Addr} {v0 v1 v2 v3 v4 v5 v6 v7 : Value} (h0 : a.cell? q0 = some v0) (h1 : a.cell? q1 = some v1) (h2 : a.cell? q2 = some v2) (h3 : a.cell? q3 = some v3) (h4 : a.cell? q4 = some v4) (h5 : a.cell? q5 = some v5) (h6 : a.cell? q6 = some v6) (h7 : a.cell? q7 = some v7) : Gr a b ∧ b.cell? q0 = some v0 ∧ b.cell? q1 = some v1 ∧ b.cell? q2 = some v2 ∧ b.cell? q3 = some v3 ∧ b.cell? q4 = some v4 ∧ b.cell? q5 = some v5 ∧ b.cell? q6 = some v6 ∧ b.cell? q7 = some v7 := ⟨g, g.keep h0, g.keep h1, g.keep h2, g.keep h3, g.keep h4, g.keep h5, g.keep h6, g.keep h7⟩
theorem holdD11 {a b : World} (g : Gr a b) {q0 q1 q2 q3 q4 q5 q6 q7 q8 q9 q10 : Addr} {v0 v1 v2 v3 v4 v5 v6 v7 v8 v9 v10 : Value} (h0 : a.cell? q0 = some v0) (h1 : a.cell? q1 = some v1) (h2 : a.cell? q2 = some v2) (h3 : a.cell? q3 = some v3) (h4 : a.cell? q4 = some v4) (h5 : a.cell? q5 = some v5) (h6 : a.cell? q6 = some v6) (h7 : a.cell? q7 = some v7) (h8 : a.cell? q8 = some v8) (h9 : a.cell? q9 = some v9) (h10 : a.cell? q10 = some v10) : Gr a b ∧ b.cell? q0 = some v0 ∧ b.cell? q1 = some v1 ∧ b.cell? q2 = some v2 ∧ b.cell? q3 = some v3 ∧ b.cell? q4 = some v4 ∧ b.cell? q5 = some v5 ∧ b.cell? q6 = some v6 ∧ b.cell? q7 = some v7 ∧ b.cell? q8 = some v8 ∧ b.cell? q9 = some v9 ∧ b.cell? q10 = some v10 := ⟨g, g.keep h0, g.keep h1, g.keep h2, g.keep h3, g.keep h4, g.keep h5, g.keep h6, g.keep h7, g.keep h8, g.keep h9, g.keep h10⟩
set_option maxHeartbeats 4000000 in
set_option maxRecDepth 100000 in
theorem refDo_no1 (A : List Acc) (M : List Mk) (key : ByteArray) (k n : Int) (t : ByteArray) (adA : Option Addr) (capA : Nat) (adM : Option Addr) (capM : Nat) (w : World) (h : LedAt w adA adM A M) (hs : key.size ≤ 9223372036854775807) (ht : t.size ≤ 9223372036854775807) (he : (Led.mayB A M && Led.keyB key && Act.actB k t n) = false) :
    Calls Try.prog 21 #[.agg #[.slice adA A.length capA, .slice adM M.length capM], .string key, .agg #[.int .i64 k, .string t, .int .i64 n]] w fun e w' => e = .returned (.tuple #[.agg #[.slice none 0 0, .slice none 0 0], .int .i64 (doE A M key k t n)]) ∧ Gr w w' := by
  have HM : Hid (∀ w', Gr w w' → Calls Try.prog 15 #[.agg #[.slice adA A.length capA, .slice adM M.length capM]] w' fun e w2 => e = .returned (.int .i64 (mayL A M)) ∧ Gr w' w2) := fun w' g => refMay7_any A M adA capA adM capM w' (h.gr g)
  have HK : Hid (∀ w', Calls Try.prog 43 #[.string key] w' fun e w2 => e = .returned (.bool (Led.keyB key)) ∧ w2 = w') := fun w' => refKey_any key w' hs
  have HC : Hid (∀ w', Calls Try.prog 44 #[.agg #[.int .i64 k, .string t, .int .i64 n]] w' fun e w2 => e = .returned (.int .i64 (Act.chkE k t n)) ∧ Gr w' w2) := fun w' => refActCheck_any k n t w' ht
  have HI : Hid (∀ w', Gr w w' → Calls Try.prog 48 #[.agg #[.slice adA A.length capA, .slice adM M.length capM], .string key] w' fun e w2 => e = .returned (.int .i64 (firstI (Led.ky M) key)) ∧ Gr w' w2) := fun w' g => refMk_any A M key adA capA adM capM w' (h.m.gr g) h.lm
  have HJ : Hid (∀ w', Gr w w' → Calls Try.prog 32 #[.agg #[.slice adA A.length capA, .slice adM M.length capM], .string t] w' fun e w2 => e = .returned (.int .i64 (firstI (Led.nm A) t)) ∧ Gr w' w2) := fun w' g => refAcc_any A M t adA capA adM capM w' (h.a.gr g) h.la
  cases hm : Led.mayB A M with
  | false =>
    have HE : Hid (doE A M key k t n = 2) := by show _ = _; unfold doE; rw [hm]; rfl
    rw [mayL_no hm] at HM
    clear h hm he HK HC HI HJ
    go_enter Try.func21, Try.ntmps21
    go_wp2_with fail
    refine (HM.out _ ((Gr.refl _).alloc.alloc.alloc)).mono ?_
    rintro e w1 ⟨rfl, hg1⟩
    have HB1 : Hid (TwoAt w1 w.heap.size (.slice adA A.length capA) (.slice adM M.length capM)) := (((TwoAt.new w _ _ _ _ rfl).gr (Gr.refl _).alloc).gr (Gr.refl _).alloc).gr hg1
    have HX1 : Hid (BoxAt w1 (w.heap.size + 1) (.int .i64 k) (.string t) (.int .i64 n)) := ((BoxAt.new _ _ _ _ _ (w.heap.size + 1) (by simp)).gr (Gr.refl _).alloc).gr hg1
    have HR1 : Hid (TwoAt w1 (w.heap.size + 1 + 1) (.slice none 0 0) (.slice none 0 0)) := (TwoAt.new _ _ _ _ (w.heap.size + 1 + 1) (by simp)).gr hg1
    have g1 : Gr w w1 := (by repeat (first | exact Gr.refl _ | refine Gr.alloc ?_ | refine Gr.drew ?_ | refine Gr.trans ?_ (by assumption)))
    clear hg1
    obtain ⟨r0, r1, f0, f1, rl⟩ := HR1.out
    go_wp2
    exact bodyPost_ret (v := .tuple #[.agg #[.slice none 0 0, .slice none 0 0], .int .i64 2]) (by simp [results, Try.results21, go_sem, *]) rfl ⟨by rw [HE.out], (g1.set _ (by simp; omega) _).set _ (by simp; omega) _⟩
  | true =>
    rw [mayL_yes hm] at HM
    cases hkb : Led.keyB key with
    | false =>
      have HE : Hid (doE A M key k t n = 2) := by show _ = _; unfold doE; rw [hm, hkb]; rfl
      rw [hkb] at HK
      clear h hm he HC HI HJ hkb
      go_enter Try.func21, Try.ntmps21
      go_wp2_with fail
      refine (HM.out _ ((Gr.refl _).alloc.alloc.alloc)).mono ?_
      rintro e w1 ⟨rfl, hg1⟩
      have HB1 : Hid (TwoAt w1 w.heap.size (.slice adA A.length capA) (.slice adM M.length capM)) := (((TwoAt.new w _ _ _ _ rfl).gr (Gr.refl _).alloc).gr (Gr.refl _).alloc).gr hg1
      have HX1 : Hid (BoxAt w1 (w.heap.size + 1) (.int .i64 k) (.string t) (.int .i64 n)) := ((BoxAt.new _ _ _ _ _ (w.heap.size + 1) (by simp)).gr (Gr.refl _).alloc).gr hg1
      have HR1 : Hid (TwoAt w1 (w.heap.size + 1 + 1) (.slice none 0 0) (.slice none 0 0)) := (TwoAt.new _ _ _ _ (w.heap.size + 1 + 1) (by simp)).gr hg1
      have g1 : Gr w w1 := (by repeat (first | exact Gr.refl _ | refine Gr.alloc ?_ | refine Gr.drew ?_ | refine Gr.trans ?_ (by assumption)))
      clear hg1
      go_wp2_with fail
      refine (HK.out _).mono ?_
      rintro e w2 ⟨rfl, hw2⟩; obtain rfl := hw2.symm
      obtain ⟨r0, r1, f0, f1, rl⟩ := HR1.out
      go_wp2
      exact bodyPost_ret (v := .tuple #[.agg #[.slice none 0 0, .slice none 0 0], .int .i64 2]) (by simp [results, Try.results21, go_sem, *]) rfl ⟨by rw [HE.out], (g1.set _ (by simp; omega) _).set _ (by simp; omega) _⟩
    | true =>
      rw [hkb] at HK
      cases hab : Act.actB k t n with
      | true => rw [hm, hkb, hab] at he; cases he
      | false =>
        have HE : Hid (doE A M key k t n = 60) := by show _ = _; unfold doE; rw [hm, hkb, hab]; rfl
        rw [Act.chk_no hab] at HC
        clear h hm he HI HJ hkb hab
        go_enter Try.func21, Try.ntmps21
        go_wp2_with fail
        refine (HM.out _ ((Gr.refl _).alloc.alloc.alloc)).mono ?_
        rintro e w1 ⟨rfl, hg1⟩
        have HB1 : Hid (TwoAt w1 w.heap.size (.slice adA A.length capA) (.slice adM M.length capM)) := (((TwoAt.new w _ _ _ _ rfl).gr (Gr.refl _).alloc).gr (Gr.refl _).alloc).gr hg1
        have HX1 : Hid (BoxAt w1 (w.heap.size + 1) (.int .i64 k) (.string t) (.int .i64 n)) := ((BoxAt.new _ _ _ _ _ (w.heap.size + 1) (by simp)).gr (Gr.refl _).alloc).gr hg1
        have HR1 : Hid (TwoAt w1 (w.heap.size + 1 + 1) (.slice none 0 0) (.slice none 0 0)) := (TwoAt.new _ _ _ _ (w.heap.size + 1 + 1) (by simp)).gr hg1
        have g1 : Gr w w1 := (by repeat (first | exact Gr.refl _ | refine Gr.alloc ?_ | refine Gr.drew ?_ | refine Gr.trans ?_ (by assumption)))
        clear hg1
        go_wp2_with fail
        refine (HK.out _).mono ?_
        rintro e w2 ⟨rfl, hw2⟩; obtain rfl := hw2.symm
        obtain ⟨a0, a1, a2, _, _, _, al⟩ := HX1.out
        go_wp2_with fail
        refine (HC.out _).mono ?_
        rintro e w2 ⟨rfl, hg2⟩
        have HB2 : Hid (TwoAt w2 w.heap.size (.slice adA A.length capA) (.slice adM M.length capM)) := HB1.out.gr hg2
        have HX2 : Hid (BoxAt w2 (w.heap.size + 1) (.int .i64 k) (.string t) (.int .i64 n)) := HX1.out.gr hg2
        have HR2 : Hid (TwoAt w2 (w.heap.size + 1 + 1) (.slice none 0 0) (.slice none 0 0)) := HR1.out.gr hg2
        have g2 : Gr w w2 := g1.trans hg2
        clear hg2 g1 a0 a1 a2 al HB1 HX1 HR1
        obtain ⟨r0, r1, f0, f1, rl⟩ := HR2.out
        go_wp2
        exact bodyPost_ret (v := .tuple #[.agg #[.slice none 0 0, .slice none 0 0], .int .i64 60]) (by simp [results, Try.results21, go_sem, *]) rfl ⟨by rw [HE.out], (g2.set _ (by simp; omega) _).set _ (by simp; omega) _⟩
set_option maxHeartbeats 8000000 in
set_option maxRecDepth 100000 in
theorem refDo_no2 (A : List Acc) (M : List Mk) (key : ByteArray) (k n : Int) (t : ByteArray) (adA : Option Addr) (capA : Nat) (adM : Option Addr) (capM : Nat) (w : World) (h : LedAt w adA adM A M) (hs : key.size ≤ 9223372036854775807) (ht : t.size ≤ 9223372036854775807) (hall : (Led.mayB A M && Led.keyB key && Act.actB k t n) = true) (hh : Led.hasB (Led.ky M) key = false) (he : begE A M k t n ≠ 0) :
    Calls Try.prog 21 #[.agg #[.slice adA A.length capA, .slice adM M.length capM], .string key, .agg #[.int .i64 k, .string t, .int .i64 n]] w fun e w' => e = .returned (.tuple #[.agg #[.slice none 0 0, .slice none 0 0], .int .i64 (begE A M k t n)]) ∧ Gr w w' := by
  have HM : Hid (∀ w', Gr w w' → Calls Try.prog 15 #[.agg #[.slice adA A.length capA, .slice adM M.length capM]] w' fun e w2 => e = .returned (.int .i64 (mayL A M)) ∧ Gr w' w2) := fun w' g => refMay7_any A M adA capA adM capM w' (h.gr g)
  have HK : Hid (∀ w', Calls Try.prog 43 #[.string key] w' fun e w2 => e = .returned (.bool (Led.keyB key)) ∧ w2 = w') := fun w' => refKey_any key w' hs
  have HC : Hid (∀ w', Calls Try.prog 44 #[.agg #[.int .i64 k, .string t, .int .i64 n]] w' fun e w2 => e = .returned (.int .i64 (Act.chkE k t n)) ∧ Gr w' w2) := fun w' => refActCheck_any k n t w' ht
  have HI : Hid (∀ w', Gr w w' → Calls Try.prog 48 #[.agg #[.slice adA A.length capA, .slice adM M.length capM], .string key] w' fun e w2 => e = .returned (.int .i64 (firstI (Led.ky M) key)) ∧ Gr w' w2) := fun w' g => refMk_any A M key adA capA adM capM w' (h.m.gr g) h.lm
  have HJ : Hid (∀ w', Gr w w' → Calls Try.prog 32 #[.agg #[.slice adA A.length capA, .slice adM M.length capM], .string t] w' fun e w2 => e = .returned (.int .i64 (firstI (Led.nm A) t)) ∧ Gr w' w2) := fun w' g => refAcc_any A M t adA capA adM capM w' (h.a.gr g) h.la
  obtain ⟨⟨hm, hkb⟩, hab⟩ : (Led.mayB A M = true ∧ Led.keyB key = true) ∧ Act.actB k t n = true := by simpa only [Bool.and_eq_true] using hall
  rw [mayL_yes hm] at HM
  rw [hkb] at HK
  rw [Act.chk_yes hab] at HC
  have hM := (Led.may_iff A M).1 hm
  rw [first_neg hh] at HI
  cases hh2 : Led.hasB (Led.nm A) t with
  | false =>
    have HE : Hid (begE A M k t n = 70) := by show _ = _; unfold begE; rw [hh2]; rfl
    rw [first_neg hh2] at HJ
    clear h hm he hkb hab hM hh2 hh hall
    go_enter Try.func21, Try.ntmps21
    go_wp2_with fail
    refine (HM.out _ ((Gr.refl _).alloc.alloc.alloc)).mono ?_
    rintro e w1 ⟨rfl, hg1⟩
    have HB1 : Hid (TwoAt w1 w.heap.size (.slice adA A.length capA) (.slice adM M.length capM)) := (((TwoAt.new w _ _ _ _ rfl).gr (Gr.refl _).alloc).gr (Gr.refl _).alloc).gr hg1
    have HX1 : Hid (BoxAt w1 (w.heap.size + 1) (.int .i64 k) (.string t) (.int .i64 n)) := ((BoxAt.new _ _ _ _ _ (w.heap.size + 1) (by simp)).gr (Gr.refl _).alloc).gr hg1
    have HR1 : Hid (TwoAt w1 (w.heap.size + 1 + 1) (.slice none 0 0) (.slice none 0 0)) := (TwoAt.new _ _ _ _ (w.heap.size + 1 + 1) (by simp)).gr hg1
    have g1 : Gr w w1 := (by repeat (first | exact Gr.refl _ | refine Gr.alloc ?_ | refine Gr.drew ?_ | refine Gr.trans ?_ (by assumption)))
    clear hg1
    go_wp2_with fail
    refine (HK.out _).mono ?_
    rintro e w2 ⟨rfl, hw2⟩; obtain rfl := hw2.symm
    obtain ⟨a0, a1, a2, _, _, _, al⟩ := HX1.out
    go_wp2_with fail
    refine (HC.out _).mono ?_
    rintro e w2 ⟨rfl, hg2⟩
    have HB2 : Hid (TwoAt w2 w.heap.size (.slice adA A.length capA) (.slice adM M.length capM)) := HB1.out.gr hg2
    have HX2 : Hid (BoxAt w2 (w.heap.size + 1) (.int .i64 k) (.string t) (.int .i64 n)) := HX1.out.gr hg2
    have HR2 : Hid (TwoAt w2 (w.heap.size + 1 + 1) (.slice none 0 0) (.slice none 0 0)) := HR1.out.gr hg2
    have g2 : Gr w w2 := g1.trans hg2
    clear hg2 g1 a0 a1 a2 al HB1 HX1 HR1
    obtain ⟨b0, b1, _, _, bl⟩ := HB2.out
    go_wp2_with fail
    refine (HI.out _ g2).mono ?_
    rintro e w3 ⟨rfl, hg3⟩
    have HB3 : Hid (TwoAt w3 w.heap.size (.slice adA A.length capA) (.slice adM M.length capM)) := HB2.out.gr hg3
    have HX3 : Hid (BoxAt w3 (w.heap.size + 1) (.int .i64 k) (.string t) (.int .i64 n)) := HX2.out.gr hg3
    have HR3 : Hid (TwoAt w3 (w.heap.size + 1 + 1) (.slice none 0 0) (.slice none 0 0)) := HR2.out.gr hg3
    have g3 : Gr w w3 := g2.trans hg3
    clear hg3 g2 b0 b1 bl HB2 HX2 HR2
    go_upto_region 6 with fail
    refine wp_region_held_drew (S := (fun w' => Gr w3 w')) (by kernel_rfl) (by exact (by (with_reducible repeat' (first | exact Gr.refl _ | refine Gr.set ?_ _ ?_ _ | refine Gr.alloc ?_ | refine Gr.drew ?_ | refine Gr.trans ?_ (by assumption))) <;> (first | (simp; done) | (simp; omega) | omega))) (fun hHeld => ?_)
    refine ty 0 28 hHeld ?_
    refine ty 1 29 hHeld ?_
    refine ty 2 30 hHeld ?_
    refine tn 3 31 hHeld ?_
    refine tn 4 32 hHeld ?_
    refine tn 5 33 hHeld ?_
    refine tn 6 34 hHeld ?_
    refine tn 7 35 hHeld ?_
    refine tn 8 36 hHeld ?_
    refine tn 9 37 hHeld ?_
    refine tn 10 38 hHeld ?_
    refine tn 11 39 hHeld ?_
    refine tn 12 40 hHeld ?_
    refine tn 13 41 hHeld ?_
    refine tn 14 42 hHeld ?_
    refine tn 15 43 hHeld ?_
    refine tn 16 44 hHeld ?_
    refine tn 17 45 hHeld ?_
    refine tn 18 46 hHeld ?_
    refine tn 19 47 hHeld ?_
    refine ty 20 48 hHeld ?_
    refine wpAnyH_done (by kernel_rfl) ?_ _
    obtain ⟨w4, hw4⟩ : ∃ W, W = w3.drew := ⟨_, rfl⟩
    have hg4 : Gr w3 w4 := by rw [hw4]; exact (Gr.refl _).drew
    rw [← hw4]
    clear hw4 hHeld
    have HB4 : Hid (TwoAt w4 w.heap.size (.slice adA A.length capA) (.slice adM M.length capM)) := HB3.out.gr hg4
    have HX4 : Hid (BoxAt w4 (w.heap.size + 1) (.int .i64 k) (.string t) (.int .i64 n)) := HX3.out.gr hg4
    have HR4 : Hid (TwoAt w4 (w.heap.size + 1 + 1) (.slice none 0 0) (.slice none 0 0)) := HR3.out.gr hg4
    have g4 : Gr w w4 := g3.trans hg4
    clear hg4 g3 HB3 HX3 HR3
    obtain ⟨b0, b1, _, _, bl⟩ := HB4.out
    obtain ⟨a0, a1, a2, _, _, _, al⟩ := HX4.out
    go_wp2_with fail
    refine (HJ.out _ g4).mono ?_
    rintro e w5 ⟨rfl, hg5⟩
    have HB5 : Hid (TwoAt w5 w.heap.size (.slice adA A.length capA) (.slice adM M.length capM)) := HB4.out.gr hg5
    have HX5 : Hid (BoxAt w5 (w.heap.size + 1) (.int .i64 k) (.string t) (.int .i64 n)) := HX4.out.gr hg5
    have HR5 : Hid (TwoAt w5 (w.heap.size + 1 + 1) (.slice none 0 0) (.slice none 0 0)) := HR4.out.gr hg5
    have g5 : Gr w w5 := g4.trans hg5
    clear hg5 g4 b0 b1 bl a0 a1 a2 al HB4 HX4 HR4
    obtain ⟨r0, r1, f0, f1, rl⟩ := HR5.out
    go_wp2
    exact bodyPost_ret (v := .tuple #[.agg #[.slice none 0 0, .slice none 0 0], .int .i64 70]) (by simp [results, Try.results21, go_sem, *]) rfl ⟨by rw [HE.out], (g5.set _ (by simp; omega) _).set _ (by simp; omega) _⟩
  | true =>
    by_cases hl : 500 ≤ M.length
    · have hli : ((M.length : Int) == 500) = true := by have := hM.lm; rw [beq_iff_eq]; omega
      have HE : Hid (begE A M k t n = 3) := by show _ = _; unfold begE; rw [hh2, if_pos rfl, if_pos hl]
      rw [first_pos hM.ua hh2] at HJ
      clear h hm he hkb hab hM hh2 hh hall
      generalize Led.pos (Led.nm A) t = p at *
      go_enter Try.func21, Try.ntmps21
      go_wp2_with fail
      refine (HM.out _ ((Gr.refl _).alloc.alloc.alloc)).mono ?_
      rintro e w1 ⟨rfl, hg1⟩
      have HB1 : Hid (TwoAt w1 w.heap.size (.slice adA A.length capA) (.slice adM M.length capM)) := (((TwoAt.new w _ _ _ _ rfl).gr (Gr.refl _).alloc).gr (Gr.refl _).alloc).gr hg1
      have HX1 : Hid (BoxAt w1 (w.heap.size + 1) (.int .i64 k) (.string t) (.int .i64 n)) := ((BoxAt.new _ _ _ _ _ (w.heap.size + 1) (by simp)).gr (Gr.refl _).alloc).gr hg1
      have HR1 : Hid (TwoAt w1 (w.heap.size + 1 + 1) (.slice none 0 0) (.slice none 0 0)) := (TwoAt.new _ _ _ _ (w.heap.size + 1 + 1) (by simp)).gr hg1
      have g1 : Gr w w1 := (by repeat (first | exact Gr.refl _ | refine Gr.alloc ?_ | refine Gr.drew ?_ | refine Gr.trans ?_ (by assumption)))
      clear hg1
      go_wp2_with fail
      refine (HK.out _).mono ?_
      rintro e w2 ⟨rfl, hw2⟩; obtain rfl := hw2.symm
      obtain ⟨a0, a1, a2, _, _, _, al⟩ := HX1.out
      go_wp2_with fail
      refine (HC.out _).mono ?_
      rintro e w2 ⟨rfl, hg2⟩
      have HB2 : Hid (TwoAt w2 w.heap.size (.slice adA A.length capA) (.slice adM M.length capM)) := HB1.out.gr hg2
      have HX2 : Hid (BoxAt w2 (w.heap.size + 1) (.int .i64 k) (.string t) (.int .i64 n)) := HX1.out.gr hg2
      have HR2 : Hid (TwoAt w2 (w.heap.size + 1 + 1) (.slice none 0 0) (.slice none 0 0)) := HR1.out.gr hg2
      have g2 : Gr w w2 := g1.trans hg2
      clear hg2 g1 a0 a1 a2 al HB1 HX1 HR1
      obtain ⟨b0, b1, _, _, bl⟩ := HB2.out
      go_wp2_with fail
      refine (HI.out _ g2).mono ?_
      rintro e w3 ⟨rfl, hg3⟩
      have HB3 : Hid (TwoAt w3 w.heap.size (.slice adA A.length capA) (.slice adM M.length capM)) := HB2.out.gr hg3
      have HX3 : Hid (BoxAt w3 (w.heap.size + 1) (.int .i64 k) (.string t) (.int .i64 n)) := HX2.out.gr hg3
      have HR3 : Hid (TwoAt w3 (w.heap.size + 1 + 1) (.slice none 0 0) (.slice none 0 0)) := HR2.out.gr hg3
      have g3 : Gr w w3 := g2.trans hg3
      clear hg3 g2 b0 b1 bl HB2 HX2 HR2
      go_upto_region 6 with fail
      refine wp_region_held_drew (S := (fun w' => Gr w3 w')) (by kernel_rfl) (by exact (by (with_reducible repeat' (first | exact Gr.refl _ | refine Gr.set ?_ _ ?_ _ | refine Gr.alloc ?_ | refine Gr.drew ?_ | refine Gr.trans ?_ (by assumption))) <;> (first | (simp; done) | (simp; omega) | omega))) (fun hHeld => ?_)
      refine ty 0 28 hHeld ?_
      refine ty 1 29 hHeld ?_
      refine ty 2 30 hHeld ?_
      refine tn 3 31 hHeld ?_
      refine tn 4 32 hHeld ?_
      refine tn 5 33 hHeld ?_
      refine tn 6 34 hHeld ?_
      refine tn 7 35 hHeld ?_
      refine tn 8 36 hHeld ?_
      refine tn 9 37 hHeld ?_
      refine tn 10 38 hHeld ?_
      refine tn 11 39 hHeld ?_
      refine tn 12 40 hHeld ?_
      refine tn 13 41 hHeld ?_
      refine tn 14 42 hHeld ?_
      refine tn 15 43 hHeld ?_
      refine tn 16 44 hHeld ?_
      refine tn 17 45 hHeld ?_
      refine tn 18 46 hHeld ?_
      refine tn 19 47 hHeld ?_
      refine ty 20 48 hHeld ?_
      refine wpAnyH_done (by kernel_rfl) ?_ _
      obtain ⟨w4, hw4⟩ : ∃ W, W = w3.drew := ⟨_, rfl⟩
      have hg4 : Gr w3 w4 := by rw [hw4]; exact (Gr.refl _).drew
      rw [← hw4]
      clear hw4 hHeld
      have HB4 : Hid (TwoAt w4 w.heap.size (.slice adA A.length capA) (.slice adM M.length capM)) := HB3.out.gr hg4
      have HX4 : Hid (BoxAt w4 (w.heap.size + 1) (.int .i64 k) (.string t) (.int .i64 n)) := HX3.out.gr hg4
      have HR4 : Hid (TwoAt w4 (w.heap.size + 1 + 1) (.slice none 0 0) (.slice none 0 0)) := HR3.out.gr hg4
      have g4 : Gr w w4 := g3.trans hg4
      clear hg4 g3 HB3 HX3 HR3
      obtain ⟨b0, b1, _, _, bl⟩ := HB4.out
      obtain ⟨a0, a1, a2, _, _, _, al⟩ := HX4.out
      go_wp2_with fail
      refine (HJ.out _ g4).mono ?_
      rintro e w5 ⟨rfl, hg5⟩
      have HB5 : Hid (TwoAt w5 w.heap.size (.slice adA A.length capA) (.slice adM M.length capM)) := HB4.out.gr hg5
      have HX5 : Hid (BoxAt w5 (w.heap.size + 1) (.int .i64 k) (.string t) (.int .i64 n)) := HX4.out.gr hg5
      have HR5 : Hid (TwoAt w5 (w.heap.size + 1 + 1) (.slice none 0 0) (.slice none 0 0)) := HR4.out.gr hg5
      have g5 : Gr w w5 := g4.trans hg5
      clear hg5 g4 b0 b1 bl a0 a1 a2 al HB4 HX4 HR4
      obtain ⟨r0, r1, f0, f1, rl⟩ := HR5.out
      obtain ⟨b0, b1, _, _, bl⟩ := HB5.out
      go_wp2
      exact bodyPost_ret (v := .tuple #[.agg #[.slice none 0 0, .slice none 0 0], .int .i64 3]) (by simp [results, Try.results21, go_sem, *]) rfl ⟨by rw [HE.out], (g5.set _ (by simp; omega) _).set _ (by simp; omega) _⟩
    · have hli : ((M.length : Int) == 500) = false := by rw [beq_eq_false_iff_ne]; omega
      have hE0 : begE A M k t n = mvX Act.chDo (atA A t) k t n := by unfold begE; rw [hh2, if_pos rfl, if_neg hl]
      obtain ⟨hp, hpe⟩ := Led.pos_mem hM.ua ((Led.has_iff _ _).1 hh2)
      rw [Led.nm_len] at hp
      obtain ⟨bb, oo, rfl, hb0, _⟩ := AccsAt.at h.a (Led.pos (Led.nm A) t) hp
      have hx : A[Led.pos (Led.nm A) t] = atA A t := by unfold atA; rw [List.getD_eq_getElem?_getD, List.getElem?_eq_getElem hp]; rfl
      have hxa : inA (atA A t) := by rw [← hx]; exact h.ra _ (List.getElem_mem hp)
      rw [first_pos hM.ua hh2] at HJ
      have HD : Hid (∀ w', Calls Try.prog 58 #[.int .i64 1, .agg #[.string (atA A t).s, .int .i64 (atA A t).a, .int .i64 (atA A t).b, .int .i64 (atA A t).c, .int .i64 (atA A t).x, .int .i64 (atA A t).y, .int .i64 (atA A t).z], .agg #[.int .i64 k, .string t, .int .i64 n]] w' fun e w2 => e = .returned (.tuple #[.agg #[.string (mvY Act.chDo (atA A t) k t n).s, .int .i64 (mvY Act.chDo (atA A t) k t n).a, .int .i64 (mvY Act.chDo (atA A t) k t n).b, .int .i64 (mvY Act.chDo (atA A t) k t n).c, .int .i64 (mvY Act.chDo (atA A t) k t n).x, .int .i64 (mvY Act.chDo (atA A t) k t n).y, .int .i64 (mvY Act.chDo (atA A t) k t n).z], .int .i64 (mvX Act.chDo (atA A t) k t n)]) ∧ Gr w' w2) := fun w' => refDoX 1 Act.chDo (atA A t) k n t w' hxa.1 ht (fun h i o out w2 => refPot1_any h i o n out w2)
      have HAA : Hid (AccsAt w (some ⟨bb, oo, none⟩) A) := h.a
      rw [hE0] at he ⊢
      have HE : Hid (mvX Act.chDo (atA A t) k t n = mvX Act.chDo (atA A t) k t n) := rfl
      have hne : (mvX Act.chDo (atA A t) k t n == 0) = false := by rw [beq_eq_false_iff_ne]; exact he
      clear h hm he hkb hab hM hh2 hh hall hE0 hxa hpe
      generalize mvX Act.chDo (atA A t) k t n = er at *
      generalize mvY Act.chDo (atA A t) k t n = y at *
      generalize atA A t = x at *
      generalize Led.pos (Led.nm A) t = p at *
      have hpi : (p : Int) < (A.length : Int) := by omega
      go_enter Try.func21, Try.ntmps21
      go_wp2_with fail
      refine (HM.out _ ((Gr.refl _).alloc.alloc.alloc)).mono ?_
      rintro e w1 ⟨rfl, hg1⟩
      have HB1 : Hid (TwoAt w1 w.heap.size (.slice (some ⟨bb, oo, none⟩) A.length capA) (.slice adM M.length capM)) := (((TwoAt.new w _ _ _ _ rfl).gr (Gr.refl _).alloc).gr (Gr.refl _).alloc).gr hg1
      have HX1 : Hid (BoxAt w1 (w.heap.size + 1) (.int .i64 k) (.string t) (.int .i64 n)) := ((BoxAt.new _ _ _ _ _ (w.heap.size + 1) (by simp)).gr (Gr.refl _).alloc).gr hg1
      have HR1 : Hid (TwoAt w1 (w.heap.size + 1 + 1) (.slice none 0 0) (.slice none 0 0)) := (TwoAt.new _ _ _ _ (w.heap.size + 1 + 1) (by simp)).gr hg1
      have g1 : Gr w w1 := (by repeat (first | exact Gr.refl _ | refine Gr.alloc ?_ | refine Gr.drew ?_ | refine Gr.trans ?_ (by assumption)))
      clear hg1
      go_wp2_with fail
      refine (HK.out _).mono ?_
      rintro e w2 ⟨rfl, hw2⟩; obtain rfl := hw2.symm
      obtain ⟨a0, a1, a2, _, _, _, al⟩ := HX1.out
      go_wp2_with fail
      refine (HC.out _).mono ?_
      rintro e w2 ⟨rfl, hg2⟩
      have HB2 : Hid (TwoAt w2 w.heap.size (.slice (some ⟨bb, oo, none⟩) A.length capA) (.slice adM M.length capM)) := HB1.out.gr hg2
      have HX2 : Hid (BoxAt w2 (w.heap.size + 1) (.int .i64 k) (.string t) (.int .i64 n)) := HX1.out.gr hg2
      have HR2 : Hid (TwoAt w2 (w.heap.size + 1 + 1) (.slice none 0 0) (.slice none 0 0)) := HR1.out.gr hg2
      have g2 : Gr w w2 := g1.trans hg2
      clear hg2 g1 a0 a1 a2 al HB1 HX1 HR1
      obtain ⟨b0, b1, _, _, bl⟩ := HB2.out
      go_wp2_with fail
      refine (HI.out _ g2).mono ?_
      rintro e w3 ⟨rfl, hg3⟩
      have HB3 : Hid (TwoAt w3 w.heap.size (.slice (some ⟨bb, oo, none⟩) A.length capA) (.slice adM M.length capM)) := HB2.out.gr hg3
      have HX3 : Hid (BoxAt w3 (w.heap.size + 1) (.int .i64 k) (.string t) (.int .i64 n)) := HX2.out.gr hg3
      have HR3 : Hid (TwoAt w3 (w.heap.size + 1 + 1) (.slice none 0 0) (.slice none 0 0)) := HR2.out.gr hg3
      have g3 : Gr w w3 := g2.trans hg3
      clear hg3 g2 b0 b1 bl HB2 HX2 HR2
      go_upto_region 6 with fail
      refine wp_region_held_drew (S := (fun w' => Gr w3 w')) (by kernel_rfl) (by exact (by (with_reducible repeat' (first | exact Gr.refl _ | refine Gr.set ?_ _ ?_ _ | refine Gr.alloc ?_ | refine Gr.drew ?_ | refine Gr.trans ?_ (by assumption))) <;> (first | (simp; done) | (simp; omega) | omega))) (fun hHeld => ?_)
      refine ty 0 28 hHeld ?_
      refine ty 1 29 hHeld ?_
      refine ty 2 30 hHeld ?_
      refine tn 3 31 hHeld ?_
      refine tn 4 32 hHeld ?_
      refine tn 5 33 hHeld ?_
      refine tn 6 34 hHeld ?_
      refine tn 7 35 hHeld ?_
      refine tn 8 36 hHeld ?_
      refine tn 9 37 hHeld ?_
      refine tn 10 38 hHeld ?_
      refine tn 11 39 hHeld ?_
      refine tn 12 40 hHeld ?_
      refine tn 13 41 hHeld ?_
      refine tn 14 42 hHeld ?_
      refine tn 15 43 hHeld ?_
      refine tn 16 44 hHeld ?_
      refine tn 17 45 hHeld ?_
      refine tn 18 46 hHeld ?_
      refine tn 19 47 hHeld ?_
      refine ty 20 48 hHeld ?_
      refine wpAnyH_done (by kernel_rfl) ?_ _
      obtain ⟨w4, hw4⟩ : ∃ W, W = w3.drew := ⟨_, rfl⟩
      have hg4 : Gr w3 w4 := by rw [hw4]; exact (Gr.refl _).drew
      rw [← hw4]
      clear hw4 hHeld
      have HB4 : Hid (TwoAt w4 w.heap.size (.slice (some ⟨bb, oo, none⟩) A.length capA) (.slice adM M.length capM)) := HB3.out.gr hg4
      have HX4 : Hid (BoxAt w4 (w.heap.size + 1) (.int .i64 k) (.string t) (.int .i64 n)) := HX3.out.gr hg4
      have HR4 : Hid (TwoAt w4 (w.heap.size + 1 + 1) (.slice none 0 0) (.slice none 0 0)) := HR3.out.gr hg4
      have g4 : Gr w w4 := g3.trans hg4
      clear hg4 g3 HB3 HX3 HR3
      obtain ⟨b0, b1, _, _, bl⟩ := HB4.out
      obtain ⟨a0, a1, a2, _, _, _, al⟩ := HX4.out
      go_wp2_with fail
      refine (HJ.out _ g4).mono ?_
      rintro e w5 ⟨rfl, hg5⟩
      have HB5 : Hid (TwoAt w5 w.heap.size (.slice (some ⟨bb, oo, none⟩) A.length capA) (.slice adM M.length capM)) := HB4.out.gr hg5
      have HX5 : Hid (BoxAt w5 (w.heap.size + 1) (.int .i64 k) (.string t) (.int .i64 n)) := HX4.out.gr hg5
      have HR5 : Hid (TwoAt w5 (w.heap.size + 1 + 1) (.slice none 0 0) (.slice none 0 0)) := HR4.out.gr hg5
      have g5 : Gr w w5 := g4.trans hg5
      clear hg5 g4 b0 b1 bl a0 a1 a2 al HB4 HX4 HR4
      obtain ⟨b0, b1, _, _, bl⟩ := HB5.out
      obtain ⟨a0, a1, a2, _, _, _, al⟩ := HX5.out
      obtain ⟨_, _, ee, hbw, d0, d1, d2, d3, d4, d5, d6⟩ := AccsAt.at (RowAt.gr HAA.out g5) p hp
      cases ee
      rw [hx] at d0 d1 d2 d3 d4 d5 d6
      go_upto_region 15 with fail
      go_cut [10, 11] (fun sp se wx => ∃ Q : Nat, sp = .pointer (some ⟨Q, 0, none⟩) ∧ se = .int .i64 er ∧ AccAt wx Q (.string y.s) (.int .i64 y.a) (.int .i64 y.b) (.int .i64 y.c) (.int .i64 y.x) (.int .i64 y.y) (.int .i64 y.z) ∧ Gr w5 wx)
      case first =>
        refine wp_region_held_drew (S := (fun w' => Gr w5 w' ∧ w'.cell? ⟨w.heap.size, 0, none⟩ = some (.slice (some ⟨bb, oo, none⟩) A.length capA) ∧ w'.cell? ⟨bb, oo + p * 7, none⟩ = some (.string x.s) ∧ w'.cell? ⟨bb, oo + p * 7 + 1, none⟩ = some (.int .i64 x.a) ∧ w'.cell? ⟨bb, oo + p * 7 + 2, none⟩ = some (.int .i64 x.b) ∧ w'.cell? ⟨bb, oo + p * 7 + 3, none⟩ = some (.int .i64 x.c) ∧ w'.cell? ⟨bb, oo + p * 7 + 4, none⟩ = some (.int .i64 x.x) ∧ w'.cell? ⟨bb, oo + p * 7 + 5, none⟩ = some (.int .i64 x.y) ∧ w'.cell? ⟨bb, oo + p * 7 + 6, none⟩ = some (.int .i64 x.z) ∧ w'.cell? ⟨w.heap.size + 1, 0, none⟩ = some (.int .i64 k) ∧ w'.cell? ⟨w.heap.size + 1, 1, none⟩ = some (.string t) ∧ w'.cell? ⟨w.heap.size + 1, 2, none⟩ = some (.int .i64 n))) (by kernel_rfl) (by exact holdD11 (by (with_reducible repeat' (first | exact Gr.refl _ | refine Gr.set ?_ _ ?_ _ | refine Gr.alloc ?_ | refine Gr.drew ?_ | refine Gr.trans ?_ (by assumption))) <;> (first | (simp; done) | (simp; omega) | omega)) b0 d0 d1 d2 d3 d4 d5 d6 a0 a1 a2) (fun hHeld => ?_)
        refine ty 0 66 hHeld ?_
        refine ty 1 67 hHeld ?_
        refine ty 2 68 hHeld ?_
        refine ty 3 69 hHeld ?_
        refine ty 4 70 hHeld ?_
        refine ty 5 71 hHeld ?_
        refine wpAnyH_ready (rs := [6, 10]) (by kernel_rfl) (by simp) (AllReadyH.cons rfl (fun K hK => ?_) (AllReadyH.cons rfl (fun K hK => ?_) AllReadyH.nil))
        · skip
          go_simp
          (go_at_call 58; refine (HD.out _).mono ?_; rintro e wn ⟨rfl, hgn⟩)
          (try go_wp2_with fail)
          refine hK.out _ _ (by exact holdD11 (by (with_reducible repeat' (first | exact Gr.refl _ | refine Gr.set ?_ _ ?_ _ | refine Gr.alloc ?_ | refine Gr.drew ?_ | refine Gr.trans ?_ (by assumption))) <;> (first | (simp; done) | (simp; omega) | omega)) b0 d0 d1 d2 d3 d4 d5 d6 a0 a1 a2) (fun hHeldN => ?_)
          clear hHeld hK K
          have hHeld := hHeldN
          clear hHeldN
          refine ty 7 65 hHeld ?_
          refine ty 8 73 hHeld ?_
          refine ty 9 74 hHeld ?_
          refine wpAnyH_ready (rs := [10]) (by kernel_rfl) (by simp) (AllReadyH.cons rfl (fun K hK => ?_) AllReadyH.nil)
          go_simp
          refine hK.out _ _ (by exact holdD11 (by (with_reducible repeat' (first | exact Gr.refl _ | refine Gr.set ?_ _ ?_ _ | refine Gr.alloc ?_ | refine Gr.drew ?_ | refine Gr.trans ?_ (by assumption))) <;> (first | (simp; done) | (simp; omega) | omega)) b0 d0 d1 d2 d3 d4 d5 d6 a0 a1 a2) (fun hHeldN => ?_)
          clear hHeld hK K
          have hHeld := hHeldN
          clear hHeldN
          refine wpAnyH_ready (rs := [11]) (by kernel_rfl) (by simp) (AllReadyH.cons rfl (fun K hK => ?_) AllReadyH.nil)
          go_simp
          refine hK.out _ _ (by exact holdD11 (by (with_reducible repeat' (first | exact Gr.refl _ | refine Gr.set ?_ _ ?_ _ | refine Gr.alloc ?_ | refine Gr.drew ?_ | refine Gr.trans ?_ (by assumption))) <;> (first | (simp; done) | (simp; omega) | omega)) b0 d0 d1 d2 d3 d4 d5 d6 a0 a1 a2) (fun hHeldN => ?_)
          clear hHeld hK K
          have hHeld := hHeldN
          clear hHeldN
          refine ty 12 11 hHeld ?_
          refine wpAnyH_done (by kernel_rfl) ?_ _
          go_wp2_with fail
          go_meet
          exact ⟨_, rfl, rfl, AccAt.new wn _ _ _ _ _ _ _ _ _ rfl, (by (with_reducible repeat' (first | exact Gr.refl _ | refine Gr.set ?_ _ ?_ _ | refine Gr.alloc ?_ | refine Gr.drew ?_ | refine Gr.trans ?_ (by assumption))) <;> (first | (simp; done) | (simp; omega) | omega))⟩
        · skip
          go_simp
          refine hK.out _ _ (by exact holdD11 (by (with_reducible repeat' (first | exact Gr.refl _ | refine Gr.set ?_ _ ?_ _ | refine Gr.alloc ?_ | refine Gr.drew ?_ | refine Gr.trans ?_ (by assumption))) <;> (first | (simp; done) | (simp; omega) | omega)) b0 d0 d1 d2 d3 d4 d5 d6 a0 a1 a2) (fun hHeldN => ?_)
          clear hHeld hK K
          have hHeld := hHeldN
          clear hHeldN
          refine wpAnyH_ready (rs := [6]) (by kernel_rfl) (by simp) (AllReadyH.cons rfl (fun K hK => ?_) AllReadyH.nil)
          go_simp
          (go_at_call 58; refine (HD.out _).mono ?_; rintro e wn ⟨rfl, hgn⟩; have hzn := hgn.size; simp at hzn; have hbz := ((AccAt.new w5 _ _ _ _ _ _ _ _ _ rfl).gr (Gr.refl _).drew).gr hgn; have HBZ : Hid (AccAt wn w5.heap.size _ _ _ _ _ _ _) := hbz; obtain ⟨z0, z1, z2, z3, z4, z5, z6⟩ := hbz.cells; obtain ⟨y0, y1, y2, y3, y4, y5, y6⟩ := hbz.frozens; have zl := hbz.lt; clear hbz)
          (try go_wp2_with fail)
          refine hK.out _ _ (by exact holdD11 (by (with_reducible repeat' (first | exact Gr.refl _ | refine Gr.set ?_ _ ?_ _ | refine Gr.alloc ?_ | refine Gr.drew ?_ | refine Gr.trans ?_ (by assumption))) <;> (first | (simp; done) | (simp; omega) | omega)) b0 d0 d1 d2 d3 d4 d5 d6 a0 a1 a2) (fun hHeldN => ?_)
          clear hHeld hK K
          have hHeld := hHeldN
          clear hHeldN
          refine ty 7 65 hHeld ?_
          refine ty 8 73 hHeld ?_
          refine ty 9 74 hHeld ?_
          refine wpAnyH_ready (rs := [11]) (by kernel_rfl) (by simp) (AllReadyH.cons rfl (fun K hK => ?_) AllReadyH.nil)
          go_simp
          refine hK.out _ _ (by exact holdD11 (by (with_reducible repeat' (first | exact Gr.refl _ | refine Gr.set ?_ _ ?_ _ | refine Gr.alloc ?_ | refine Gr.drew ?_ | refine Gr.trans ?_ (by assumption))) <;> (first | (simp; done) | (simp; omega) | omega)) b0 d0 d1 d2 d3 d4 d5 d6 a0 a1 a2) (fun hHeldN => ?_)
          clear hHeld hK K
          have hHeld := hHeldN
          clear hHeldN
          refine ty 12 11 hHeld ?_
          refine wpAnyH_done (by kernel_rfl) ?_ _
          go_wp2_with fail
          go_meet
          exact ⟨_, rfl, rfl, HBZ.out.set7 _ _ _ _ _ _ _, (by (with_reducible repeat' (first | exact Gr.refl _ | refine Gr.set ?_ _ ?_ _ | refine Gr.alloc ?_ | refine Gr.drew ?_ | refine Gr.trans ?_ (by assumption))) <;> (first | (simp; done) | (simp; omega) | omega))⟩
      case rest =>
      obtain ⟨w6, rfl⟩ : ∃ x, x = wc := ⟨_, rfl⟩
      obtain ⟨Q, rfl, rfl, hQA, hg6⟩ := hcut
      have HQA : Hid (AccAt w6 Q (.string y.s) (.int .i64 y.a) (.int .i64 y.b) (.int .i64 y.c) (.int .i64 y.x) (.int .i64 y.y) (.int .i64 y.z)) := hQA
      have HB6 : Hid (TwoAt w6 w.heap.size (.slice (some ⟨bb, oo, none⟩) A.length capA) (.slice adM M.length capM)) := HB5.out.gr hg6
      have HX6 : Hid (BoxAt w6 (w.heap.size + 1) (.int .i64 k) (.string t) (.int .i64 n)) := HX5.out.gr hg6
      have HR6 : Hid (TwoAt w6 (w.heap.size + 1 + 1) (.slice none 0 0) (.slice none 0 0)) := HR5.out.gr hg6
      have g6 : Gr w w6 := g5.trans hg6
      clear hQA hg6 b0 b1 bl d0 d1 d2 d3 d4 d5 d6 a0 a1 a2 al HB5 HX5 HR5 g5 hbw HD
      obtain ⟨r0, r1, f0, f1, rl⟩ := HR6.out
      go_wp2
      exact bodyPost_ret (v := .tuple #[.agg #[.slice none 0 0, .slice none 0 0], .int .i64 er]) (by simp [results, Try.results21, go_sem, *]) rfl ⟨rfl, (g6.set _ (by simp; omega) _).set _ (by simp; omega) _⟩
set_option maxHeartbeats 8000000 in
set_option maxRecDepth 100000 in
theorem refDo_no3 (A : List Acc) (M : List Mk) (key : ByteArray) (k n : Int) (t : ByteArray) (adA : Option Addr) (capA : Nat) (adM : Option Addr) (capM : Nat) (w : World) (h : LedAt w adA adM A M) (hs : key.size ≤ 9223372036854775807) (ht : t.size ≤ 9223372036854775807) (hall : (Led.mayB A M && Led.keyB key && Act.actB k t n) = true) (hh : Led.hasB (Led.ky M) key = true) (hns : sameB (atM M key) k t n = false) :
    Calls Try.prog 21 #[.agg #[.slice adA A.length capA, .slice adM M.length capM], .string key, .agg #[.int .i64 k, .string t, .int .i64 n]] w fun e w' => e = .returned (.tuple #[.agg #[.slice none 0 0, .slice none 0 0], .int .i64 72]) ∧ Gr w w' := by
  have HM : Hid (∀ w', Gr w w' → Calls Try.prog 15 #[.agg #[.slice adA A.length capA, .slice adM M.length capM]] w' fun e w2 => e = .returned (.int .i64 (mayL A M)) ∧ Gr w' w2) := fun w' g => refMay7_any A M adA capA adM capM w' (h.gr g)
  have HK : Hid (∀ w', Calls Try.prog 43 #[.string key] w' fun e w2 => e = .returned (.bool (Led.keyB key)) ∧ w2 = w') := fun w' => refKey_any key w' hs
  have HC : Hid (∀ w', Calls Try.prog 44 #[.agg #[.int .i64 k, .string t, .int .i64 n]] w' fun e w2 => e = .returned (.int .i64 (Act.chkE k t n)) ∧ Gr w' w2) := fun w' => refActCheck_any k n t w' ht
  have HI : Hid (∀ w', Gr w w' → Calls Try.prog 48 #[.agg #[.slice adA A.length capA, .slice adM M.length capM], .string key] w' fun e w2 => e = .returned (.int .i64 (firstI (Led.ky M) key)) ∧ Gr w' w2) := fun w' g => refMk_any A M key adA capA adM capM w' (h.m.gr g) h.lm
  have HJ : Hid (∀ w', Gr w w' → Calls Try.prog 32 #[.agg #[.slice adA A.length capA, .slice adM M.length capM], .string t] w' fun e w2 => e = .returned (.int .i64 (firstI (Led.nm A) t)) ∧ Gr w' w2) := fun w' g => refAcc_any A M t adA capA adM capM w' (h.a.gr g) h.la
  obtain ⟨⟨hm, hkb⟩, hab⟩ : (Led.mayB A M = true ∧ Led.keyB key = true) ∧ Act.actB k t n = true := by simpa only [Bool.and_eq_true] using hall
  rw [mayL_yes hm] at HM
  rw [hkb] at HK
  rw [Act.chk_yes hab] at HC
  have hM := (Led.may_iff A M).1 hm
  obtain ⟨hp, hpe⟩ := Led.pos_mem hM.um ((Led.has_iff _ _).1 hh)
  rw [Led.ky_len] at hp
  obtain ⟨bb, oo, rfl, hb0, _⟩ := MksAt.at h.m (Led.pos (Led.ky M) key) hp
  have hx : M[Led.pos (Led.ky M) key] = atM M key := by unfold atM; rw [List.getD_eq_getElem?_getD, List.getElem?_eq_getElem hp]; rfl
  rw [first_pos hM.um hh] at HI
  have HMM : Hid (MksAt w (some ⟨bb, oo, none⟩) M) := h.m
  have hnot : ¬ ((atM M key).k = k ∧ (atM M key).t = t ∧ (atM M key).n = n ∧ (atM M key).st = 1) := fun hq => by rw [(same_iff _ _ _ _).2 hq] at hns; cases hns
  have hpi : (Led.pos (Led.ky M) key : Int) < (M.length : Int) := by omega
  clear h hm hkb hab hM hh hall hpe hns HJ
  generalize atM M key = m at *
  generalize Led.pos (Led.ky M) key = p at *
  obtain ⟨mk, mkk, mt, mn, ms⟩ := m
  simp only at hnot
  by_cases h1 : mkk = k
  · subst h1
    by_cases h2 : mt = t
    · subst h2
      by_cases h3 : mn = n
      · subst h3
        have h5 : ms ≠ 1 := fun e => hnot ⟨rfl, rfl, rfl, e⟩
        have h4 := (beq_eq_false_iff_ne.2 h5)
        clear hnot
        go_enter Try.func21, Try.ntmps21
        go_wp2_with fail
        refine (HM.out _ ((Gr.refl _).alloc.alloc.alloc)).mono ?_
        rintro e w1 ⟨rfl, hg1⟩
        have HB1 : Hid (TwoAt w1 w.heap.size (.slice adA A.length capA) (.slice (some ⟨bb, oo, none⟩) M.length capM)) := (((TwoAt.new w _ _ _ _ rfl).gr (Gr.refl _).alloc).gr (Gr.refl _).alloc).gr hg1
        have HX1 : Hid (BoxAt w1 (w.heap.size + 1) (.int .i64 mkk) (.string mt) (.int .i64 mn)) := ((BoxAt.new _ _ _ _ _ (w.heap.size + 1) (by simp)).gr (Gr.refl _).alloc).gr hg1
        have HR1 : Hid (TwoAt w1 (w.heap.size + 1 + 1) (.slice none 0 0) (.slice none 0 0)) := (TwoAt.new _ _ _ _ (w.heap.size + 1 + 1) (by simp)).gr hg1
        have g1 : Gr w w1 := (by repeat (first | exact Gr.refl _ | refine Gr.alloc ?_ | refine Gr.drew ?_ | refine Gr.trans ?_ (by assumption)))
        clear hg1
        go_wp2_with fail
        refine (HK.out _).mono ?_
        rintro e w2 ⟨rfl, hw2⟩; obtain rfl := hw2.symm
        obtain ⟨a0, a1, a2, _, _, _, al⟩ := HX1.out
        go_wp2_with fail
        refine (HC.out _).mono ?_
        rintro e w2 ⟨rfl, hg2⟩
        have HB2 : Hid (TwoAt w2 w.heap.size (.slice adA A.length capA) (.slice (some ⟨bb, oo, none⟩) M.length capM)) := HB1.out.gr hg2
        have HX2 : Hid (BoxAt w2 (w.heap.size + 1) (.int .i64 mkk) (.string mt) (.int .i64 mn)) := HX1.out.gr hg2
        have HR2 : Hid (TwoAt w2 (w.heap.size + 1 + 1) (.slice none 0 0) (.slice none 0 0)) := HR1.out.gr hg2
        have g2 : Gr w w2 := g1.trans hg2
        clear hg2 g1 a0 a1 a2 al HB1 HX1 HR1
        obtain ⟨b0, b1, _, _, bl⟩ := HB2.out
        go_wp2_with fail
        refine (HI.out _ g2).mono ?_
        rintro e w3 ⟨rfl, hg3⟩
        have HB3 : Hid (TwoAt w3 w.heap.size (.slice adA A.length capA) (.slice (some ⟨bb, oo, none⟩) M.length capM)) := HB2.out.gr hg3
        have HX3 : Hid (BoxAt w3 (w.heap.size + 1) (.int .i64 mkk) (.string mt) (.int .i64 mn)) := HX2.out.gr hg3
        have HR3 : Hid (TwoAt w3 (w.heap.size + 1 + 1) (.slice none 0 0) (.slice none 0 0)) := HR2.out.gr hg3
        have g3 : Gr w w3 := g2.trans hg3
        clear hg3 g2 b0 b1 bl HB2 HX2 HR2
        obtain ⟨b0, b1, _, _, bl⟩ := HB3.out
        obtain ⟨a0, a1, a2, _, _, _, al⟩ := HX3.out
        obtain ⟨_, _, ee, hbw, d0, d1, d2, d3, d4⟩ := MksAt.at (RowAt.gr HMM.out g3) p hp
        cases ee
        rw [hx] at d0 d1 d2 d3 d4
        simp only at d0 d1 d2 d3 d4
        go_upto_region 6 with fail
        refine wp_region_held_drew (S := (fun w' => Gr w3 w' ∧ w'.cell? ⟨w.heap.size, 1, none⟩ = some (.slice (some ⟨bb, oo, none⟩) M.length capM) ∧ w'.cell? ⟨bb, oo + p * 5 + 1, none⟩ = some (.int .i64 mkk) ∧ w'.cell? ⟨bb, oo + p * 5 + 2, none⟩ = some (.string mt) ∧ w'.cell? ⟨bb, oo + p * 5 + 3, none⟩ = some (.int .i64 mn) ∧ w'.cell? ⟨bb, oo + p * 5 + 4, none⟩ = some (.int .i64 ms) ∧ w'.cell? ⟨w.heap.size + 1, 0, none⟩ = some (.int .i64 mkk) ∧ w'.cell? ⟨w.heap.size + 1, 1, none⟩ = some (.string mt) ∧ w'.cell? ⟨w.heap.size + 1, 2, none⟩ = some (.int .i64 mn))) (by kernel_rfl) (by exact holdD8 (by (with_reducible repeat' (first | exact Gr.refl _ | refine Gr.set ?_ _ ?_ _ | refine Gr.alloc ?_ | refine Gr.drew ?_ | refine Gr.trans ?_ (by assumption))) <;> (first | (simp; done) | (simp; omega) | omega)) b1 d1 d2 d3 d4 a0 a1 a2) (fun hHeld => ?_)
        refine ty 0 28 hHeld ?_
        refine ty 1 29 hHeld ?_
        refine ty 2 30 hHeld ?_
        refine ty 3 31 hHeld ?_
        refine ty 4 32 hHeld ?_
        refine ty 5 33 hHeld ?_
        refine ty 6 34 hHeld ?_
        refine ty 7 35 hHeld ?_
        refine ty 8 36 hHeld ?_
        refine ty 9 37 hHeld ?_
        refine ty 10 38 hHeld ?_
        refine ty 11 39 hHeld ?_
        refine ty 12 40 hHeld ?_
        refine ty 13 41 hHeld ?_
        refine ty 14 42 hHeld ?_
        refine ty 15 43 hHeld ?_
        refine ty 16 44 hHeld ?_
        refine ty 17 45 hHeld ?_
        refine ty 18 46 hHeld ?_
        refine ty 19 47 hHeld ?_
        refine ty 20 48 hHeld ?_
        refine wpAnyH_done (by kernel_rfl) ?_ _
        obtain ⟨w4, hw4⟩ : ∃ W, W = w3.drew := ⟨_, rfl⟩
        have hg4 : Gr w3 w4 := by rw [hw4]; exact (Gr.refl _).drew
        rw [← hw4]
        clear hw4 hHeld
        have HB4 : Hid (TwoAt w4 w.heap.size (.slice adA A.length capA) (.slice (some ⟨bb, oo, none⟩) M.length capM)) := HB3.out.gr hg4
        have HR4 : Hid (TwoAt w4 (w.heap.size + 1 + 1) (.slice none 0 0) (.slice none 0 0)) := HR3.out.gr hg4
        have g4 : Gr w w4 := g3.trans hg4
        clear hg4 g3 HB3 HX3 HR3 b0 b1 bl a0 a1 a2 al d0 d1 d2 d3 d4
        obtain ⟨r0, r1, f0, f1, rl⟩ := HR4.out
        go_wp2
        exact bodyPost_ret (v := .tuple #[.agg #[.slice none 0 0, .slice none 0 0], .int .i64 72]) (by simp [results, Try.results21, go_sem, *]) rfl ⟨rfl, (g4.set _ (by simp; omega) _).set _ (by simp; omega) _⟩
      · skip
        have h4 := (beq_eq_false_iff_ne.2 h3)
        clear hnot
        go_enter Try.func21, Try.ntmps21
        go_wp2_with fail
        refine (HM.out _ ((Gr.refl _).alloc.alloc.alloc)).mono ?_
        rintro e w1 ⟨rfl, hg1⟩
        have HB1 : Hid (TwoAt w1 w.heap.size (.slice adA A.length capA) (.slice (some ⟨bb, oo, none⟩) M.length capM)) := (((TwoAt.new w _ _ _ _ rfl).gr (Gr.refl _).alloc).gr (Gr.refl _).alloc).gr hg1
        have HX1 : Hid (BoxAt w1 (w.heap.size + 1) (.int .i64 mkk) (.string mt) (.int .i64 n)) := ((BoxAt.new _ _ _ _ _ (w.heap.size + 1) (by simp)).gr (Gr.refl _).alloc).gr hg1
        have HR1 : Hid (TwoAt w1 (w.heap.size + 1 + 1) (.slice none 0 0) (.slice none 0 0)) := (TwoAt.new _ _ _ _ (w.heap.size + 1 + 1) (by simp)).gr hg1
        have g1 : Gr w w1 := (by repeat (first | exact Gr.refl _ | refine Gr.alloc ?_ | refine Gr.drew ?_ | refine Gr.trans ?_ (by assumption)))
        clear hg1
        go_wp2_with fail
        refine (HK.out _).mono ?_
        rintro e w2 ⟨rfl, hw2⟩; obtain rfl := hw2.symm
        obtain ⟨a0, a1, a2, _, _, _, al⟩ := HX1.out
        go_wp2_with fail
        refine (HC.out _).mono ?_
        rintro e w2 ⟨rfl, hg2⟩
        have HB2 : Hid (TwoAt w2 w.heap.size (.slice adA A.length capA) (.slice (some ⟨bb, oo, none⟩) M.length capM)) := HB1.out.gr hg2
        have HX2 : Hid (BoxAt w2 (w.heap.size + 1) (.int .i64 mkk) (.string mt) (.int .i64 n)) := HX1.out.gr hg2
        have HR2 : Hid (TwoAt w2 (w.heap.size + 1 + 1) (.slice none 0 0) (.slice none 0 0)) := HR1.out.gr hg2
        have g2 : Gr w w2 := g1.trans hg2
        clear hg2 g1 a0 a1 a2 al HB1 HX1 HR1
        obtain ⟨b0, b1, _, _, bl⟩ := HB2.out
        go_wp2_with fail
        refine (HI.out _ g2).mono ?_
        rintro e w3 ⟨rfl, hg3⟩
        have HB3 : Hid (TwoAt w3 w.heap.size (.slice adA A.length capA) (.slice (some ⟨bb, oo, none⟩) M.length capM)) := HB2.out.gr hg3
        have HX3 : Hid (BoxAt w3 (w.heap.size + 1) (.int .i64 mkk) (.string mt) (.int .i64 n)) := HX2.out.gr hg3
        have HR3 : Hid (TwoAt w3 (w.heap.size + 1 + 1) (.slice none 0 0) (.slice none 0 0)) := HR2.out.gr hg3
        have g3 : Gr w w3 := g2.trans hg3
        clear hg3 g2 b0 b1 bl HB2 HX2 HR2
        obtain ⟨b0, b1, _, _, bl⟩ := HB3.out
        obtain ⟨a0, a1, a2, _, _, _, al⟩ := HX3.out
        obtain ⟨_, _, ee, hbw, d0, d1, d2, d3, d4⟩ := MksAt.at (RowAt.gr HMM.out g3) p hp
        cases ee
        rw [hx] at d0 d1 d2 d3 d4
        simp only at d0 d1 d2 d3 d4
        go_upto_region 6 with fail
        refine wp_region_held_drew (S := (fun w' => Gr w3 w' ∧ w'.cell? ⟨w.heap.size, 1, none⟩ = some (.slice (some ⟨bb, oo, none⟩) M.length capM) ∧ w'.cell? ⟨bb, oo + p * 5 + 1, none⟩ = some (.int .i64 mkk) ∧ w'.cell? ⟨bb, oo + p * 5 + 2, none⟩ = some (.string mt) ∧ w'.cell? ⟨bb, oo + p * 5 + 3, none⟩ = some (.int .i64 mn) ∧ w'.cell? ⟨bb, oo + p * 5 + 4, none⟩ = some (.int .i64 ms) ∧ w'.cell? ⟨w.heap.size + 1, 0, none⟩ = some (.int .i64 mkk) ∧ w'.cell? ⟨w.heap.size + 1, 1, none⟩ = some (.string mt) ∧ w'.cell? ⟨w.heap.size + 1, 2, none⟩ = some (.int .i64 n))) (by kernel_rfl) (by exact holdD8 (by (with_reducible repeat' (first | exact Gr.refl _ | refine Gr.set ?_ _ ?_ _ | refine Gr.alloc ?_ | refine Gr.drew ?_ | refine Gr.trans ?_ (by assumption))) <;> (first | (simp; done) | (simp; omega) | omega)) b1 d1 d2 d3 d4 a0 a1 a2) (fun hHeld => ?_)
        refine ty 0 28 hHeld ?_
        refine ty 1 29 hHeld ?_
        refine ty 2 30 hHeld ?_
        refine ty 3 31 hHeld ?_
        refine ty 4 32 hHeld ?_
        refine ty 5 33 hHeld ?_
        refine ty 6 34 hHeld ?_
        refine ty 7 35 hHeld ?_
        refine ty 8 36 hHeld ?_
        refine ty 9 37 hHeld ?_
        refine ty 10 38 hHeld ?_
        refine ty 11 39 hHeld ?_
        refine tn 12 40 hHeld ?_
        refine tn 13 41 hHeld ?_
        refine tn 14 42 hHeld ?_
        refine tn 15 43 hHeld ?_
        refine tn 16 44 hHeld ?_
        refine tn 17 45 hHeld ?_
        refine tn 18 46 hHeld ?_
        refine ty 19 47 hHeld ?_
        refine ty 20 48 hHeld ?_
        refine wpAnyH_done (by kernel_rfl) ?_ _
        obtain ⟨w4, hw4⟩ : ∃ W, W = w3.drew := ⟨_, rfl⟩
        have hg4 : Gr w3 w4 := by rw [hw4]; exact (Gr.refl _).drew
        rw [← hw4]
        clear hw4 hHeld
        have HB4 : Hid (TwoAt w4 w.heap.size (.slice adA A.length capA) (.slice (some ⟨bb, oo, none⟩) M.length capM)) := HB3.out.gr hg4
        have HR4 : Hid (TwoAt w4 (w.heap.size + 1 + 1) (.slice none 0 0) (.slice none 0 0)) := HR3.out.gr hg4
        have g4 : Gr w w4 := g3.trans hg4
        clear hg4 g3 HB3 HX3 HR3 b0 b1 bl a0 a1 a2 al d0 d1 d2 d3 d4
        obtain ⟨r0, r1, f0, f1, rl⟩ := HR4.out
        go_wp2
        exact bodyPost_ret (v := .tuple #[.agg #[.slice none 0 0, .slice none 0 0], .int .i64 72]) (by simp [results, Try.results21, go_sem, *]) rfl ⟨rfl, (g4.set _ (by simp; omega) _).set _ (by simp; omega) _⟩
    · skip
      have h4 := neB h2
      clear hnot
      go_enter Try.func21, Try.ntmps21
      go_wp2_with fail
      refine (HM.out _ ((Gr.refl _).alloc.alloc.alloc)).mono ?_
      rintro e w1 ⟨rfl, hg1⟩
      have HB1 : Hid (TwoAt w1 w.heap.size (.slice adA A.length capA) (.slice (some ⟨bb, oo, none⟩) M.length capM)) := (((TwoAt.new w _ _ _ _ rfl).gr (Gr.refl _).alloc).gr (Gr.refl _).alloc).gr hg1
      have HX1 : Hid (BoxAt w1 (w.heap.size + 1) (.int .i64 mkk) (.string t) (.int .i64 n)) := ((BoxAt.new _ _ _ _ _ (w.heap.size + 1) (by simp)).gr (Gr.refl _).alloc).gr hg1
      have HR1 : Hid (TwoAt w1 (w.heap.size + 1 + 1) (.slice none 0 0) (.slice none 0 0)) := (TwoAt.new _ _ _ _ (w.heap.size + 1 + 1) (by simp)).gr hg1
      have g1 : Gr w w1 := (by repeat (first | exact Gr.refl _ | refine Gr.alloc ?_ | refine Gr.drew ?_ | refine Gr.trans ?_ (by assumption)))
      clear hg1
      go_wp2_with fail
      refine (HK.out _).mono ?_
      rintro e w2 ⟨rfl, hw2⟩; obtain rfl := hw2.symm
      obtain ⟨a0, a1, a2, _, _, _, al⟩ := HX1.out
      go_wp2_with fail
      refine (HC.out _).mono ?_
      rintro e w2 ⟨rfl, hg2⟩
      have HB2 : Hid (TwoAt w2 w.heap.size (.slice adA A.length capA) (.slice (some ⟨bb, oo, none⟩) M.length capM)) := HB1.out.gr hg2
      have HX2 : Hid (BoxAt w2 (w.heap.size + 1) (.int .i64 mkk) (.string t) (.int .i64 n)) := HX1.out.gr hg2
      have HR2 : Hid (TwoAt w2 (w.heap.size + 1 + 1) (.slice none 0 0) (.slice none 0 0)) := HR1.out.gr hg2
      have g2 : Gr w w2 := g1.trans hg2
      clear hg2 g1 a0 a1 a2 al HB1 HX1 HR1
      obtain ⟨b0, b1, _, _, bl⟩ := HB2.out
      go_wp2_with fail
      refine (HI.out _ g2).mono ?_
      rintro e w3 ⟨rfl, hg3⟩
      have HB3 : Hid (TwoAt w3 w.heap.size (.slice adA A.length capA) (.slice (some ⟨bb, oo, none⟩) M.length capM)) := HB2.out.gr hg3
      have HX3 : Hid (BoxAt w3 (w.heap.size + 1) (.int .i64 mkk) (.string t) (.int .i64 n)) := HX2.out.gr hg3
      have HR3 : Hid (TwoAt w3 (w.heap.size + 1 + 1) (.slice none 0 0) (.slice none 0 0)) := HR2.out.gr hg3
      have g3 : Gr w w3 := g2.trans hg3
      clear hg3 g2 b0 b1 bl HB2 HX2 HR2
      obtain ⟨b0, b1, _, _, bl⟩ := HB3.out
      obtain ⟨a0, a1, a2, _, _, _, al⟩ := HX3.out
      obtain ⟨_, _, ee, hbw, d0, d1, d2, d3, d4⟩ := MksAt.at (RowAt.gr HMM.out g3) p hp
      cases ee
      rw [hx] at d0 d1 d2 d3 d4
      simp only at d0 d1 d2 d3 d4
      go_upto_region 6 with fail
      refine wp_region_held_drew (S := (fun w' => Gr w3 w' ∧ w'.cell? ⟨w.heap.size, 1, none⟩ = some (.slice (some ⟨bb, oo, none⟩) M.length capM) ∧ w'.cell? ⟨bb, oo + p * 5 + 1, none⟩ = some (.int .i64 mkk) ∧ w'.cell? ⟨bb, oo + p * 5 + 2, none⟩ = some (.string mt) ∧ w'.cell? ⟨bb, oo + p * 5 + 3, none⟩ = some (.int .i64 mn) ∧ w'.cell? ⟨bb, oo + p * 5 + 4, none⟩ = some (.int .i64 ms) ∧ w'.cell? ⟨w.heap.size + 1, 0, none⟩ = some (.int .i64 mkk) ∧ w'.cell? ⟨w.heap.size + 1, 1, none⟩ = some (.string t) ∧ w'.cell? ⟨w.heap.size + 1, 2, none⟩ = some (.int .i64 n))) (by kernel_rfl) (by exact holdD8 (by (with_reducible repeat' (first | exact Gr.refl _ | refine Gr.set ?_ _ ?_ _ | refine Gr.alloc ?_ | refine Gr.drew ?_ | refine Gr.trans ?_ (by assumption))) <;> (first | (simp; done) | (simp; omega) | omega)) b1 d1 d2 d3 d4 a0 a1 a2) (fun hHeld => ?_)
      refine ty 0 28 hHeld ?_
      refine ty 1 29 hHeld ?_
      refine ty 2 30 hHeld ?_
      refine ty 3 31 hHeld ?_
      refine ty 4 32 hHeld ?_
      refine ty 5 33 hHeld ?_
      refine ty 6 34 hHeld ?_
      refine ty 7 35 hHeld ?_
      refine ty 8 36 hHeld ?_
      refine ty 9 37 hHeld ?_
      refine ty 10 38 hHeld ?_
      refine ty 11 39 hHeld ?_
      refine tn 12 40 hHeld ?_
      refine tn 13 41 hHeld ?_
      refine tn 14 42 hHeld ?_
      refine tn 15 43 hHeld ?_
      refine tn 16 44 hHeld ?_
      refine tn 17 45 hHeld ?_
      refine tn 18 46 hHeld ?_
      refine ty 19 47 hHeld ?_
      refine ty 20 48 hHeld ?_
      refine wpAnyH_done (by kernel_rfl) ?_ _
      obtain ⟨w4, hw4⟩ : ∃ W, W = w3.drew := ⟨_, rfl⟩
      have hg4 : Gr w3 w4 := by rw [hw4]; exact (Gr.refl _).drew
      rw [← hw4]
      clear hw4 hHeld
      have HB4 : Hid (TwoAt w4 w.heap.size (.slice adA A.length capA) (.slice (some ⟨bb, oo, none⟩) M.length capM)) := HB3.out.gr hg4
      have HR4 : Hid (TwoAt w4 (w.heap.size + 1 + 1) (.slice none 0 0) (.slice none 0 0)) := HR3.out.gr hg4
      have g4 : Gr w w4 := g3.trans hg4
      clear hg4 g3 HB3 HX3 HR3 b0 b1 bl a0 a1 a2 al d0 d1 d2 d3 d4
      obtain ⟨r0, r1, f0, f1, rl⟩ := HR4.out
      go_wp2
      exact bodyPost_ret (v := .tuple #[.agg #[.slice none 0 0, .slice none 0 0], .int .i64 72]) (by simp [results, Try.results21, go_sem, *]) rfl ⟨rfl, (g4.set _ (by simp; omega) _).set _ (by simp; omega) _⟩
  · skip
    have h4 := (beq_eq_false_iff_ne.2 h1)
    clear hnot
    go_enter Try.func21, Try.ntmps21
    go_wp2_with fail
    refine (HM.out _ ((Gr.refl _).alloc.alloc.alloc)).mono ?_
    rintro e w1 ⟨rfl, hg1⟩
    have HB1 : Hid (TwoAt w1 w.heap.size (.slice adA A.length capA) (.slice (some ⟨bb, oo, none⟩) M.length capM)) := (((TwoAt.new w _ _ _ _ rfl).gr (Gr.refl _).alloc).gr (Gr.refl _).alloc).gr hg1
    have HX1 : Hid (BoxAt w1 (w.heap.size + 1) (.int .i64 k) (.string t) (.int .i64 n)) := ((BoxAt.new _ _ _ _ _ (w.heap.size + 1) (by simp)).gr (Gr.refl _).alloc).gr hg1
    have HR1 : Hid (TwoAt w1 (w.heap.size + 1 + 1) (.slice none 0 0) (.slice none 0 0)) := (TwoAt.new _ _ _ _ (w.heap.size + 1 + 1) (by simp)).gr hg1
    have g1 : Gr w w1 := (by repeat (first | exact Gr.refl _ | refine Gr.alloc ?_ | refine Gr.drew ?_ | refine Gr.trans ?_ (by assumption)))
    clear hg1
    go_wp2_with fail
    refine (HK.out _).mono ?_
    rintro e w2 ⟨rfl, hw2⟩; obtain rfl := hw2.symm
    obtain ⟨a0, a1, a2, _, _, _, al⟩ := HX1.out
    go_wp2_with fail
    refine (HC.out _).mono ?_
    rintro e w2 ⟨rfl, hg2⟩
    have HB2 : Hid (TwoAt w2 w.heap.size (.slice adA A.length capA) (.slice (some ⟨bb, oo, none⟩) M.length capM)) := HB1.out.gr hg2
    have HX2 : Hid (BoxAt w2 (w.heap.size + 1) (.int .i64 k) (.string t) (.int .i64 n)) := HX1.out.gr hg2
    have HR2 : Hid (TwoAt w2 (w.heap.size + 1 + 1) (.slice none 0 0) (.slice none 0 0)) := HR1.out.gr hg2
    have g2 : Gr w w2 := g1.trans hg2
    clear hg2 g1 a0 a1 a2 al HB1 HX1 HR1
    obtain ⟨b0, b1, _, _, bl⟩ := HB2.out
    go_wp2_with fail
    refine (HI.out _ g2).mono ?_
    rintro e w3 ⟨rfl, hg3⟩
    have HB3 : Hid (TwoAt w3 w.heap.size (.slice adA A.length capA) (.slice (some ⟨bb, oo, none⟩) M.length capM)) := HB2.out.gr hg3
    have HX3 : Hid (BoxAt w3 (w.heap.size + 1) (.int .i64 k) (.string t) (.int .i64 n)) := HX2.out.gr hg3
    have HR3 : Hid (TwoAt w3 (w.heap.size + 1 + 1) (.slice none 0 0) (.slice none 0 0)) := HR2.out.gr hg3
    have g3 : Gr w w3 := g2.trans hg3
    clear hg3 g2 b0 b1 bl HB2 HX2 HR2
    obtain ⟨b0, b1, _, _, bl⟩ := HB3.out
    obtain ⟨a0, a1, a2, _, _, _, al⟩ := HX3.out
    obtain ⟨_, _, ee, hbw, d0, d1, d2, d3, d4⟩ := MksAt.at (RowAt.gr HMM.out g3) p hp
    cases ee
    rw [hx] at d0 d1 d2 d3 d4
    simp only at d0 d1 d2 d3 d4
    go_upto_region 6 with fail
    refine wp_region_held_drew (S := (fun w' => Gr w3 w' ∧ w'.cell? ⟨w.heap.size, 1, none⟩ = some (.slice (some ⟨bb, oo, none⟩) M.length capM) ∧ w'.cell? ⟨bb, oo + p * 5 + 1, none⟩ = some (.int .i64 mkk) ∧ w'.cell? ⟨bb, oo + p * 5 + 2, none⟩ = some (.string mt) ∧ w'.cell? ⟨bb, oo + p * 5 + 3, none⟩ = some (.int .i64 mn) ∧ w'.cell? ⟨bb, oo + p * 5 + 4, none⟩ = some (.int .i64 ms) ∧ w'.cell? ⟨w.heap.size + 1, 0, none⟩ = some (.int .i64 k) ∧ w'.cell? ⟨w.heap.size + 1, 1, none⟩ = some (.string t) ∧ w'.cell? ⟨w.heap.size + 1, 2, none⟩ = some (.int .i64 n))) (by kernel_rfl) (by exact holdD8 (by (with_reducible repeat' (first | exact Gr.refl _ | refine Gr.set ?_ _ ?_ _ | refine Gr.alloc ?_ | refine Gr.drew ?_ | refine Gr.trans ?_ (by assumption))) <;> (first | (simp; done) | (simp; omega) | omega)) b1 d1 d2 d3 d4 a0 a1 a2) (fun hHeld => ?_)
    refine ty 0 28 hHeld ?_
    refine ty 1 29 hHeld ?_
    refine ty 2 30 hHeld ?_
    refine ty 3 31 hHeld ?_
    refine ty 4 32 hHeld ?_
    refine ty 5 33 hHeld ?_
    refine ty 6 34 hHeld ?_
    refine ty 7 35 hHeld ?_
    refine ty 8 36 hHeld ?_
    refine ty 9 37 hHeld ?_
    refine ty 10 38 hHeld ?_
    refine ty 11 39 hHeld ?_
    refine tn 12 40 hHeld ?_
    refine tn 13 41 hHeld ?_
    refine tn 14 42 hHeld ?_
    refine tn 15 43 hHeld ?_
    refine tn 16 44 hHeld ?_
    refine tn 17 45 hHeld ?_
    refine tn 18 46 hHeld ?_
    refine ty 19 47 hHeld ?_
    refine ty 20 48 hHeld ?_
    refine wpAnyH_done (by kernel_rfl) ?_ _
    obtain ⟨w4, hw4⟩ : ∃ W, W = w3.drew := ⟨_, rfl⟩
    have hg4 : Gr w3 w4 := by rw [hw4]; exact (Gr.refl _).drew
    rw [← hw4]
    clear hw4 hHeld
    have HB4 : Hid (TwoAt w4 w.heap.size (.slice adA A.length capA) (.slice (some ⟨bb, oo, none⟩) M.length capM)) := HB3.out.gr hg4
    have HR4 : Hid (TwoAt w4 (w.heap.size + 1 + 1) (.slice none 0 0) (.slice none 0 0)) := HR3.out.gr hg4
    have g4 : Gr w w4 := g3.trans hg4
    clear hg4 g3 HB3 HX3 HR3 b0 b1 bl a0 a1 a2 al d0 d1 d2 d3 d4
    obtain ⟨r0, r1, f0, f1, rl⟩ := HR4.out
    go_wp2
    exact bodyPost_ret (v := .tuple #[.agg #[.slice none 0 0, .slice none 0 0], .int .i64 72]) (by simp [results, Try.results21, go_sem, *]) rfl ⟨rfl, (g4.set _ (by simp; omega) _).set _ (by simp; omega) _⟩
set_option maxHeartbeats 8000000 in
set_option maxRecDepth 100000 in
theorem refDo_yes1 (A : List Acc) (M : List Mk) (key : ByteArray) (k n : Int) (t : ByteArray) (adA : Option Addr) (capA : Nat) (adM : Option Addr) (capM : Nat) (w : World) (h : LedAt w adA adM A M) (hs : key.size ≤ 9223372036854775807) (ht : t.size ≤ 9223372036854775807) (hall : (Led.mayB A M && Led.keyB key && Act.actB k t n) = true) (hh : Led.hasB (Led.ky M) key = true) (hns : sameB (atM M key) k t n = true) :
    Calls Try.prog 21 #[.agg #[.slice adA A.length capA, .slice adM M.length capM], .string key, .agg #[.int .i64 k, .string t, .int .i64 n]] w fun e w' => DoR w A M e w' := by
  have HM : Hid (∀ w', Gr w w' → Calls Try.prog 15 #[.agg #[.slice adA A.length capA, .slice adM M.length capM]] w' fun e w2 => e = .returned (.int .i64 (mayL A M)) ∧ Gr w' w2) := fun w' g => refMay7_any A M adA capA adM capM w' (h.gr g)
  have HK : Hid (∀ w', Calls Try.prog 43 #[.string key] w' fun e w2 => e = .returned (.bool (Led.keyB key)) ∧ w2 = w') := fun w' => refKey_any key w' hs
  have HC : Hid (∀ w', Calls Try.prog 44 #[.agg #[.int .i64 k, .string t, .int .i64 n]] w' fun e w2 => e = .returned (.int .i64 (Act.chkE k t n)) ∧ Gr w' w2) := fun w' => refActCheck_any k n t w' ht
  have HI : Hid (∀ w', Gr w w' → Calls Try.prog 48 #[.agg #[.slice adA A.length capA, .slice adM M.length capM], .string key] w' fun e w2 => e = .returned (.int .i64 (firstI (Led.ky M) key)) ∧ Gr w' w2) := fun w' g => refMk_any A M key adA capA adM capM w' (h.m.gr g) h.lm
  have HJ : Hid (∀ w', Gr w w' → Calls Try.prog 32 #[.agg #[.slice adA A.length capA, .slice adM M.length capM], .string t] w' fun e w2 => e = .returned (.int .i64 (firstI (Led.nm A) t)) ∧ Gr w' w2) := fun w' g => refAcc_any A M t adA capA adM capM w' (h.a.gr g) h.la
  obtain ⟨⟨hm, hkb⟩, hab⟩ : (Led.mayB A M = true ∧ Led.keyB key = true) ∧ Act.actB k t n = true := by simpa only [Bool.and_eq_true] using hall
  rw [mayL_yes hm] at HM
  rw [hkb] at HK
  rw [Act.chk_yes hab] at HC
  have hM := (Led.may_iff A M).1 hm
  obtain ⟨hp, hpe⟩ := Led.pos_mem hM.um ((Led.has_iff _ _).1 hh)
  rw [Led.ky_len] at hp
  obtain ⟨bb, oo, rfl, hb0, _⟩ := MksAt.at h.m (Led.pos (Led.ky M) key) hp
  have hx : M[Led.pos (Led.ky M) key] = atM M key := by unfold atM; rw [List.getD_eq_getElem?_getD, List.getElem?_eq_getElem hp]; rfl
  rw [first_pos hM.um hh] at HI
  have HMM : Hid (MksAt w (some ⟨bb, oo, none⟩) M) := h.m
  have hnot := (same_iff _ _ _ _).1 hns
  have hpi : (Led.pos (Led.ky M) key : Int) < (M.length : Int) := by omega
  have HAA : Hid (AccsAt w adA A) := h.a
  clear h hm hkb hab hM hh hall hpe hns HJ
  generalize atM M key = m at *
  generalize Led.pos (Led.ky M) key = p at *
  obtain ⟨mk, mkk, mt, mn, ms⟩ := m
  simp only at hnot
  obtain ⟨rfl, rfl, rfl, rfl⟩ := hnot
  go_enter Try.func21, Try.ntmps21
  go_wp2_with fail
  refine (HM.out _ ((Gr.refl _).alloc.alloc.alloc)).mono ?_
  rintro e w1 ⟨rfl, hg1⟩
  have HB1 : Hid (TwoAt w1 w.heap.size (.slice adA A.length capA) (.slice (some ⟨bb, oo, none⟩) M.length capM)) := (((TwoAt.new w _ _ _ _ rfl).gr (Gr.refl _).alloc).gr (Gr.refl _).alloc).gr hg1
  have HX1 : Hid (BoxAt w1 (w.heap.size + 1) (.int .i64 mkk) (.string mt) (.int .i64 mn)) := ((BoxAt.new _ _ _ _ _ (w.heap.size + 1) (by simp)).gr (Gr.refl _).alloc).gr hg1
  have HR1 : Hid (TwoAt w1 (w.heap.size + 1 + 1) (.slice none 0 0) (.slice none 0 0)) := (TwoAt.new _ _ _ _ (w.heap.size + 1 + 1) (by simp)).gr hg1
  have g1 : Gr w w1 := (by repeat (first | exact Gr.refl _ | refine Gr.alloc ?_ | refine Gr.drew ?_ | refine Gr.trans ?_ (by assumption)))
  clear hg1
  go_wp2_with fail
  refine (HK.out _).mono ?_
  rintro e w2 ⟨rfl, hw2⟩; obtain rfl := hw2.symm
  obtain ⟨a0, a1, a2, _, _, _, al⟩ := HX1.out
  go_wp2_with fail
  refine (HC.out _).mono ?_
  rintro e w2 ⟨rfl, hg2⟩
  have HB2 : Hid (TwoAt w2 w.heap.size (.slice adA A.length capA) (.slice (some ⟨bb, oo, none⟩) M.length capM)) := HB1.out.gr hg2
  have HX2 : Hid (BoxAt w2 (w.heap.size + 1) (.int .i64 mkk) (.string mt) (.int .i64 mn)) := HX1.out.gr hg2
  have HR2 : Hid (TwoAt w2 (w.heap.size + 1 + 1) (.slice none 0 0) (.slice none 0 0)) := HR1.out.gr hg2
  have g2 : Gr w w2 := g1.trans hg2
  clear hg2 g1 a0 a1 a2 al HB1 HX1 HR1
  obtain ⟨b0, b1, _, _, bl⟩ := HB2.out
  go_wp2_with fail
  refine (HI.out _ g2).mono ?_
  rintro e w3 ⟨rfl, hg3⟩
  have HB3 : Hid (TwoAt w3 w.heap.size (.slice adA A.length capA) (.slice (some ⟨bb, oo, none⟩) M.length capM)) := HB2.out.gr hg3
  have HX3 : Hid (BoxAt w3 (w.heap.size + 1) (.int .i64 mkk) (.string mt) (.int .i64 mn)) := HX2.out.gr hg3
  have HR3 : Hid (TwoAt w3 (w.heap.size + 1 + 1) (.slice none 0 0) (.slice none 0 0)) := HR2.out.gr hg3
  have g3 : Gr w w3 := g2.trans hg3
  clear hg3 g2 b0 b1 bl HB2 HX2 HR2
  obtain ⟨b0, b1, _, _, bl⟩ := HB3.out
  obtain ⟨a0, a1, a2, _, _, _, al⟩ := HX3.out
  obtain ⟨_, _, ee, hbw, d0, d1, d2, d3, d4⟩ := MksAt.at (RowAt.gr HMM.out g3) p hp
  cases ee
  rw [hx] at d0 d1 d2 d3 d4
  simp only at d0 d1 d2 d3 d4
  go_upto_region 6 with fail
  refine wp_region_held_drew (S := (fun w' => Gr w3 w' ∧ w'.cell? ⟨w.heap.size, 1, none⟩ = some (.slice (some ⟨bb, oo, none⟩) M.length capM) ∧ w'.cell? ⟨bb, oo + p * 5 + 1, none⟩ = some (.int .i64 mkk) ∧ w'.cell? ⟨bb, oo + p * 5 + 2, none⟩ = some (.string mt) ∧ w'.cell? ⟨bb, oo + p * 5 + 3, none⟩ = some (.int .i64 mn) ∧ w'.cell? ⟨bb, oo + p * 5 + 4, none⟩ = some (.int .i64 1) ∧ w'.cell? ⟨w.heap.size + 1, 0, none⟩ = some (.int .i64 mkk) ∧ w'.cell? ⟨w.heap.size + 1, 1, none⟩ = some (.string mt) ∧ w'.cell? ⟨w.heap.size + 1, 2, none⟩ = some (.int .i64 mn))) (by kernel_rfl) (by exact holdD8 (by (with_reducible repeat' (first | exact Gr.refl _ | refine Gr.set ?_ _ ?_ _ | refine Gr.alloc ?_ | refine Gr.drew ?_ | refine Gr.trans ?_ (by assumption))) <;> (first | (simp; done) | (simp; omega) | omega)) b1 d1 d2 d3 d4 a0 a1 a2) (fun hHeld => ?_)
  refine ty 0 28 hHeld ?_
  refine ty 1 29 hHeld ?_
  refine ty 2 30 hHeld ?_
  refine ty 3 31 hHeld ?_
  refine ty 4 32 hHeld ?_
  refine ty 5 33 hHeld ?_
  refine ty 6 34 hHeld ?_
  refine ty 7 35 hHeld ?_
  refine ty 8 36 hHeld ?_
  refine ty 9 37 hHeld ?_
  refine ty 10 38 hHeld ?_
  refine ty 11 39 hHeld ?_
  refine ty 12 40 hHeld ?_
  refine ty 13 41 hHeld ?_
  refine ty 14 42 hHeld ?_
  refine ty 15 43 hHeld ?_
  refine ty 16 44 hHeld ?_
  refine ty 17 45 hHeld ?_
  refine ty 18 46 hHeld ?_
  refine ty 19 47 hHeld ?_
  refine ty 20 48 hHeld ?_
  refine wpAnyH_done (by kernel_rfl) ?_ _
  obtain ⟨w4, hw4⟩ : ∃ W, W = w3.drew := ⟨_, rfl⟩
  have hg4 : Gr w3 w4 := by rw [hw4]; exact (Gr.refl _).drew
  rw [← hw4]
  clear hw4 hHeld
  have HB4 : Hid (TwoAt w4 w.heap.size (.slice adA A.length capA) (.slice (some ⟨bb, oo, none⟩) M.length capM)) := HB3.out.gr hg4
  have HR4 : Hid (TwoAt w4 (w.heap.size + 1 + 1) (.slice none 0 0) (.slice none 0 0)) := HR3.out.gr hg4
  have g4 : Gr w w4 := g3.trans hg4
  clear hg4 g3 HB3 HX3 HR3 b0 b1 bl a0 a1 a2 al d0 d1 d2 d3 d4
  obtain ⟨b0, b1, bf0, bf1, bl⟩ := HB4.out
  obtain ⟨r0, r1, f0, f1, rl⟩ := HR4.out
  go_wp2
  have G : Gr w ((w4.setCell ⟨w.heap.size + 1 + 1, 0, none⟩ (.slice adA A.length capA)).setCell ⟨w.heap.size + 1 + 1, 1, none⟩ (.slice (some ⟨bb, oo, none⟩) M.length capM)) := (g4.set _ (by simp; omega) _).set _ (by simp; omega) _
  exact bodyPost_ret (v := .tuple #[.agg #[.slice adA A.length capA, .slice (some ⟨bb, oo, none⟩) M.length capM], .int .i64 0]) (by simp [results, Try.results21, go_sem, *]) rfl ⟨adA, capA, some ⟨bb, oo, none⟩, capM, rfl, RowAt.gr HAA.out G, RowAt.gr HMM.out G, G⟩
end Go.Proofs.Ytgidkmipecfjhaa
