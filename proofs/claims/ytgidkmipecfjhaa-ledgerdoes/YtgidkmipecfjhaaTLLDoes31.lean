/- What the proof is made of, part 31. -/
import Derived.Test.YtgidkmipecfjhaaTLLDoes30
namespace Go.Proofs.Ytgidkmipecfjhaa
open Go.RowKit
open Led (Acc Mk)
set_option maxHeartbeats 8000000 in
set_option maxRecDepth 100000 in
theorem refEndK_no1 (A : List Acc) (M : List Mk) (key : ByteArray) (adA : Option Addr) (capA : Nat) (adM : Option Addr) (capM : Nat) (w : World) (h : LedAt w adA adM A M) (hs : key.size ≤ 9223372036854775807) (he : (Led.mayB A M && Led.keyB key) = false) :
    Calls Try.prog 23 #[.int .i64 3, .agg #[.slice adA A.length capA, .slice adM M.length capM], .string key] w fun e w' => e = .returned (.tuple #[.agg #[.slice none 0 0, .slice none 0 0], .int .i64 2]) ∧ Gr w w' := by
  have HM : Hid (∀ w', Gr w w' → Calls Try.prog 15 #[.agg #[.slice adA A.length capA, .slice adM M.length capM]] w' fun e w2 => e = .returned (.int .i64 (mayL A M)) ∧ Gr w' w2) := fun w' g => refMay7_any A M adA capA adM capM w' (h.gr g)
  have HK : Hid (∀ w', Calls Try.prog 43 #[.string key] w' fun e w2 => e = .returned (.bool (Led.keyB key)) ∧ w2 = w') := fun w' => refKey_any key w' hs
  have HI : Hid (∀ w', Gr w w' → Calls Try.prog 48 #[.agg #[.slice adA A.length capA, .slice adM M.length capM], .string key] w' fun e w2 => e = .returned (.int .i64 (firstI (Led.ky M) key)) ∧ Gr w' w2) := fun w' g => refMk_any A M key adA capA adM capM w' (h.m.gr g) h.lm
  have HE : Hid ((2 : Int) = 2) := rfl
  cases hm : Led.mayB A M with
  | false =>
    rw [mayL_no hm] at HM
    clear h hm he HK HI
    go_enter Try.func23, Try.ntmps23
    go_wp2_with fail
    refine (HM.out _ ((Gr.refl _).alloc.alloc)).mono ?_
    rintro e w1 ⟨rfl, hg1⟩
    have HB1 : Hid (TwoAt w1 w.heap.size (.slice adA A.length capA) (.slice adM M.length capM)) := ((TwoAt.new w _ _ _ _ rfl).gr (Gr.refl _).alloc).gr hg1
    have HR1 : Hid (TwoAt w1 (w.heap.size + 1) (.slice none 0 0) (.slice none 0 0)) := (TwoAt.new _ _ _ _ (w.heap.size + 1) (by simp)).gr hg1
    have g1 : Gr w w1 := (by repeat (first | exact Gr.refl _ | refine Gr.alloc ?_ | refine Gr.drew ?_ | refine Gr.trans ?_ (by assumption)))
    clear hg1
    obtain ⟨r0, r1, f0, f1, rl⟩ := HR1.out
    go_wp2
    exact bodyPost_ret (v := .tuple #[.agg #[.slice none 0 0, .slice none 0 0], .int .i64 2]) (by simp [results, Try.results23, go_sem, *]) rfl ⟨rfl, (g1.set _ (by simp) _).set _ (by simp) _⟩
  | true =>
    rw [mayL_yes hm] at HM
    cases hkb : Led.keyB key with
    | true => rw [hm, hkb] at he; cases he
    | false =>
      rw [hkb] at HK
      clear h hm he HI hkb
      go_enter Try.func23, Try.ntmps23
      go_wp2_with fail
      refine (HM.out _ ((Gr.refl _).alloc.alloc)).mono ?_
      rintro e w1 ⟨rfl, hg1⟩
      have HB1 : Hid (TwoAt w1 w.heap.size (.slice adA A.length capA) (.slice adM M.length capM)) := ((TwoAt.new w _ _ _ _ rfl).gr (Gr.refl _).alloc).gr hg1
      have HR1 : Hid (TwoAt w1 (w.heap.size + 1) (.slice none 0 0) (.slice none 0 0)) := (TwoAt.new _ _ _ _ (w.heap.size + 1) (by simp)).gr hg1
      have g1 : Gr w w1 := (by repeat (first | exact Gr.refl _ | refine Gr.alloc ?_ | refine Gr.drew ?_ | refine Gr.trans ?_ (by assumption)))
      clear hg1
      go_wp2_with fail
      refine (HK.out _).mono ?_
      rintro e w2 ⟨rfl, hw2⟩; obtain rfl := hw2.symm
      obtain ⟨r0, r1, f0, f1, rl⟩ := HR1.out
      go_wp2
      exact bodyPost_ret (v := .tuple #[.agg #[.slice none 0 0, .slice none 0 0], .int .i64 2]) (by simp [results, Try.results23, go_sem, *]) rfl ⟨rfl, (g1.set _ (by simp) _).set _ (by simp) _⟩
set_option maxHeartbeats 8000000 in
set_option maxRecDepth 100000 in
theorem refEndK_no2 (A : List Acc) (M : List Mk) (key : ByteArray) (adA : Option Addr) (capA : Nat) (adM : Option Addr) (capM : Nat) (w : World) (h : LedAt w adA adM A M) (hs : key.size ≤ 9223372036854775807) (hall : (Led.mayB A M && Led.keyB key) = true) (hh : Led.hasB (Led.ky M) key = false) :
    Calls Try.prog 23 #[.int .i64 3, .agg #[.slice adA A.length capA, .slice adM M.length capM], .string key] w fun e w' => e = .returned (.tuple #[.agg #[.slice none 0 0, .slice none 0 0], .int .i64 70]) ∧ Gr w w' := by
  have HM : Hid (∀ w', Gr w w' → Calls Try.prog 15 #[.agg #[.slice adA A.length capA, .slice adM M.length capM]] w' fun e w2 => e = .returned (.int .i64 (mayL A M)) ∧ Gr w' w2) := fun w' g => refMay7_any A M adA capA adM capM w' (h.gr g)
  have HK : Hid (∀ w', Calls Try.prog 43 #[.string key] w' fun e w2 => e = .returned (.bool (Led.keyB key)) ∧ w2 = w') := fun w' => refKey_any key w' hs
  have HI : Hid (∀ w', Gr w w' → Calls Try.prog 48 #[.agg #[.slice adA A.length capA, .slice adM M.length capM], .string key] w' fun e w2 => e = .returned (.int .i64 (firstI (Led.ky M) key)) ∧ Gr w' w2) := fun w' g => refMk_any A M key adA capA adM capM w' (h.m.gr g) h.lm
  obtain ⟨hm, hkb⟩ : Led.mayB A M = true ∧ Led.keyB key = true := by simpa only [Bool.and_eq_true] using hall
  rw [mayL_yes hm] at HM
  rw [hkb] at HK
  have hM := (Led.may_iff A M).1 hm
  rw [first_neg hh] at HI
  clear h hm hkb hM hh hall
  go_enter Try.func23, Try.ntmps23
  go_wp2_with fail
  refine (HM.out _ ((Gr.refl _).alloc.alloc)).mono ?_
  rintro e w1 ⟨rfl, hg1⟩
  have HB1 : Hid (TwoAt w1 w.heap.size (.slice adA A.length capA) (.slice adM M.length capM)) := ((TwoAt.new w _ _ _ _ rfl).gr (Gr.refl _).alloc).gr hg1
  have HR1 : Hid (TwoAt w1 (w.heap.size + 1) (.slice none 0 0) (.slice none 0 0)) := (TwoAt.new _ _ _ _ (w.heap.size + 1) (by simp)).gr hg1
  have g1 : Gr w w1 := (by repeat (first | exact Gr.refl _ | refine Gr.alloc ?_ | refine Gr.drew ?_ | refine Gr.trans ?_ (by assumption)))
  clear hg1
  go_wp2_with fail
  refine (HK.out _).mono ?_
  rintro e w2 ⟨rfl, hw2⟩; obtain rfl := hw2.symm
  obtain ⟨b0, b1, _, _, bl⟩ := HB1.out
  go_wp2_with fail
  refine (HI.out _ g1).mono ?_
  rintro e w2 ⟨rfl, hg2⟩
  have HB2 : Hid (TwoAt w2 w.heap.size (.slice adA A.length capA) (.slice adM M.length capM)) := HB1.out.gr hg2
  have HR2 : Hid (TwoAt w2 (w.heap.size + 1) (.slice none 0 0) (.slice none 0 0)) := HR1.out.gr hg2
  have g2 : Gr w w2 := g1.trans hg2
  clear hg2 g1 b0 b1 bl HB1 HR1
  obtain ⟨r0, r1, f0, f1, rl⟩ := HR2.out
  go_wp2
  exact bodyPost_ret (v := .tuple #[.agg #[.slice none 0 0, .slice none 0 0], .int .i64 70]) (by simp [results, Try.results23, go_sem, *]) rfl ⟨rfl, (g2.set _ (by simp) _).set _ (by simp) _⟩
set_option maxHeartbeats 8000000 in
set_option maxRecDepth 100000 in
theorem refEndK_yes1 (A : List Acc) (M : List Mk) (key : ByteArray) (adA : Option Addr) (capA : Nat) (adM : Option Addr) (capM : Nat) (w : World) (h : LedAt w adA adM A M) (hs : key.size ≤ 9223372036854775807) (hall : (Led.mayB A M && Led.keyB key) = true) (hh : Led.hasB (Led.ky M) key = true) (hst : (atM M key).st = 3) :
    Calls Try.prog 23 #[.int .i64 3, .agg #[.slice adA A.length capA, .slice adM M.length capM], .string key] w fun e w' => DoR w A M e w' := by
  have HM : Hid (∀ w', Gr w w' → Calls Try.prog 15 #[.agg #[.slice adA A.length capA, .slice adM M.length capM]] w' fun e w2 => e = .returned (.int .i64 (mayL A M)) ∧ Gr w' w2) := fun w' g => refMay7_any A M adA capA adM capM w' (h.gr g)
  have HK : Hid (∀ w', Calls Try.prog 43 #[.string key] w' fun e w2 => e = .returned (.bool (Led.keyB key)) ∧ w2 = w') := fun w' => refKey_any key w' hs
  have HI : Hid (∀ w', Gr w w' → Calls Try.prog 48 #[.agg #[.slice adA A.length capA, .slice adM M.length capM], .string key] w' fun e w2 => e = .returned (.int .i64 (firstI (Led.ky M) key)) ∧ Gr w' w2) := fun w' g => refMk_any A M key adA capA adM capM w' (h.m.gr g) h.lm
  obtain ⟨hm, hkb⟩ : Led.mayB A M = true ∧ Led.keyB key = true := by simpa only [Bool.and_eq_true] using hall
  rw [mayL_yes hm] at HM
  rw [hkb] at HK
  have hM := (Led.may_iff A M).1 hm
  obtain ⟨hp, hpe⟩ := Led.pos_mem hM.um ((Led.has_iff _ _).1 hh)
  rw [Led.ky_len] at hp
  obtain ⟨bb, oo, rfl, hb0, _⟩ := MksAt.at h.m (Led.pos (Led.ky M) key) hp
  have hx : M[Led.pos (Led.ky M) key] = atM M key := by unfold atM; rw [List.getD_eq_getElem?_getD, List.getElem?_eq_getElem hp]; rfl
  rw [first_pos hM.um hh] at HI
  have HMM : Hid (MksAt w (some ⟨bb, oo, none⟩) M) := h.m
  have hpi : (Led.pos (Led.ky M) key : Int) < (M.length : Int) := by omega
  have HAA : Hid (AccsAt w adA A) := h.a
  clear h hm hkb hM hh hall hpe
  generalize atM M key = m at *
  generalize Led.pos (Led.ky M) key = p at *
  go_enter Try.func23, Try.ntmps23
  go_wp2_with fail
  refine (HM.out _ ((Gr.refl _).alloc.alloc)).mono ?_
  rintro e w1 ⟨rfl, hg1⟩
  have HB1 : Hid (TwoAt w1 w.heap.size (.slice adA A.length capA) (.slice (some ⟨bb, oo, none⟩) M.length capM)) := ((TwoAt.new w _ _ _ _ rfl).gr (Gr.refl _).alloc).gr hg1
  have HR1 : Hid (TwoAt w1 (w.heap.size + 1) (.slice none 0 0) (.slice none 0 0)) := (TwoAt.new _ _ _ _ (w.heap.size + 1) (by simp)).gr hg1
  have g1 : Gr w w1 := (by repeat (first | exact Gr.refl _ | refine Gr.alloc ?_ | refine Gr.drew ?_ | refine Gr.trans ?_ (by assumption)))
  clear hg1
  go_wp2_with fail
  refine (HK.out _).mono ?_
  rintro e w2 ⟨rfl, hw2⟩; obtain rfl := hw2.symm
  obtain ⟨b0, b1, _, _, bl⟩ := HB1.out
  go_wp2_with fail
  refine (HI.out _ g1).mono ?_
  rintro e w2 ⟨rfl, hg2⟩
  have HB2 : Hid (TwoAt w2 w.heap.size (.slice adA A.length capA) (.slice (some ⟨bb, oo, none⟩) M.length capM)) := HB1.out.gr hg2
  have HR2 : Hid (TwoAt w2 (w.heap.size + 1) (.slice none 0 0) (.slice none 0 0)) := HR1.out.gr hg2
  have g2 : Gr w w2 := g1.trans hg2
  clear hg2 g1 b0 b1 bl HB1 HR1
  obtain ⟨b0, b1, bf0, bf1, bl⟩ := HB2.out
  obtain ⟨_, _, ee, hbw, d0, d1, d2, d3, d4⟩ := MksAt.at (RowAt.gr HMM.out g2) p hp
  cases ee
  rw [hx] at d0 d1 d2 d3 d4
  rw [hst] at d4
  obtain ⟨r0, r1, f0, f1, rl⟩ := HR2.out
  go_wp2
  exact bodyPost_ret (v := .tuple #[.agg #[.slice adA A.length capA, .slice (some ⟨bb, oo, none⟩) M.length capM], .int .i64 0]) (by simp [results, Try.results23, go_sem, *]) rfl (DoR.old HAA.out HMM.out (by first | exact (g2.alloc.set _ (by simp) _).set _ (by simp) _ | exact ((g2.set _ (by simp) _).set _ (by simp) _).alloc))
set_option maxHeartbeats 8000000 in
set_option maxRecDepth 100000 in
theorem refEndK_no3 (A : List Acc) (M : List Mk) (key : ByteArray) (adA : Option Addr) (capA : Nat) (adM : Option Addr) (capM : Nat) (w : World) (h : LedAt w adA adM A M) (hs : key.size ≤ 9223372036854775807) (hall : (Led.mayB A M && Led.keyB key) = true) (hh : Led.hasB (Led.ky M) key = true) (hs1 : (atM M key).st ≠ 3) (hs2 : (atM M key).st ≠ 1) :
    Calls Try.prog 23 #[.int .i64 3, .agg #[.slice adA A.length capA, .slice adM M.length capM], .string key] w fun e w' => e = .returned (.tuple #[.agg #[.slice none 0 0, .slice none 0 0], .int .i64 72]) ∧ Gr w w' := by
  have HM : Hid (∀ w', Gr w w' → Calls Try.prog 15 #[.agg #[.slice adA A.length capA, .slice adM M.length capM]] w' fun e w2 => e = .returned (.int .i64 (mayL A M)) ∧ Gr w' w2) := fun w' g => refMay7_any A M adA capA adM capM w' (h.gr g)
  have HK : Hid (∀ w', Calls Try.prog 43 #[.string key] w' fun e w2 => e = .returned (.bool (Led.keyB key)) ∧ w2 = w') := fun w' => refKey_any key w' hs
  have HI : Hid (∀ w', Gr w w' → Calls Try.prog 48 #[.agg #[.slice adA A.length capA, .slice adM M.length capM], .string key] w' fun e w2 => e = .returned (.int .i64 (firstI (Led.ky M) key)) ∧ Gr w' w2) := fun w' g => refMk_any A M key adA capA adM capM w' (h.m.gr g) h.lm
  obtain ⟨hm, hkb⟩ : Led.mayB A M = true ∧ Led.keyB key = true := by simpa only [Bool.and_eq_true] using hall
  rw [mayL_yes hm] at HM
  rw [hkb] at HK
  have hM := (Led.may_iff A M).1 hm
  obtain ⟨hp, hpe⟩ := Led.pos_mem hM.um ((Led.has_iff _ _).1 hh)
  rw [Led.ky_len] at hp
  obtain ⟨bb, oo, rfl, hb0, _⟩ := MksAt.at h.m (Led.pos (Led.ky M) key) hp
  have hx : M[Led.pos (Led.ky M) key] = atM M key := by unfold atM; rw [List.getD_eq_getElem?_getD, List.getElem?_eq_getElem hp]; rfl
  rw [first_pos hM.um hh] at HI
  have HMM : Hid (MksAt w (some ⟨bb, oo, none⟩) M) := h.m
  have hpi : (Led.pos (Led.ky M) key : Int) < (M.length : Int) := by omega
  clear h hm hkb hM hh hall hpe
  generalize atM M key = m at *
  generalize Led.pos (Led.ky M) key = p at *
  have h4 := beq_eq_false_iff_ne.2 hs1
  have h5 := beq_eq_false_iff_ne.2 hs2
  go_enter Try.func23, Try.ntmps23
  go_wp2_with fail
  refine (HM.out _ ((Gr.refl _).alloc.alloc)).mono ?_
  rintro e w1 ⟨rfl, hg1⟩
  have HB1 : Hid (TwoAt w1 w.heap.size (.slice adA A.length capA) (.slice (some ⟨bb, oo, none⟩) M.length capM)) := ((TwoAt.new w _ _ _ _ rfl).gr (Gr.refl _).alloc).gr hg1
  have HR1 : Hid (TwoAt w1 (w.heap.size + 1) (.slice none 0 0) (.slice none 0 0)) := (TwoAt.new _ _ _ _ (w.heap.size + 1) (by simp)).gr hg1
  have g1 : Gr w w1 := (by repeat (first | exact Gr.refl _ | refine Gr.alloc ?_ | refine Gr.drew ?_ | refine Gr.trans ?_ (by assumption)))
  clear hg1
  go_wp2_with fail
  refine (HK.out _).mono ?_
  rintro e w2 ⟨rfl, hw2⟩; obtain rfl := hw2.symm
  obtain ⟨b0, b1, _, _, bl⟩ := HB1.out
  go_wp2_with fail
  refine (HI.out _ g1).mono ?_
  rintro e w2 ⟨rfl, hg2⟩
  have HB2 : Hid (TwoAt w2 w.heap.size (.slice adA A.length capA) (.slice (some ⟨bb, oo, none⟩) M.length capM)) := HB1.out.gr hg2
  have HR2 : Hid (TwoAt w2 (w.heap.size + 1) (.slice none 0 0) (.slice none 0 0)) := HR1.out.gr hg2
  have g2 : Gr w w2 := g1.trans hg2
  clear hg2 g1 b0 b1 bl HB1 HR1
  obtain ⟨b0, b1, bf0, bf1, bl⟩ := HB2.out
  obtain ⟨_, _, ee, hbw, d0, d1, d2, d3, d4⟩ := MksAt.at (RowAt.gr HMM.out g2) p hp
  cases ee
  rw [hx] at d0 d1 d2 d3 d4
  obtain ⟨r0, r1, f0, f1, rl⟩ := HR2.out
  go_wp2
  exact bodyPost_ret (v := .tuple #[.agg #[.slice none 0 0, .slice none 0 0], .int .i64 72]) (by simp [results, Try.results23, go_sem, *]) rfl ⟨rfl, (by first | exact (g2.alloc.set _ (by simp) _).set _ (by simp) _ | exact ((g2.set _ (by simp) _).set _ (by simp) _).alloc)⟩
end Go.Proofs.Ytgidkmipecfjhaa
namespace Go.Proofs.Ytgidkmipecfjhaa
open Go.RowKit
open Led (Acc Mk)
set_option maxHeartbeats 8000000 in
set_option maxRecDepth 100000 in
theorem refEndK_no4 (A : List Acc) (M : List Mk) (key : ByteArray) (adA : Option Addr) (capA : Nat) (adM : Option Addr) (capM : Nat) (w : World) (h : LedAt w adA adM A M) (hs : key.size ≤ 9223372036854775807) (hall : (Led.mayB A M && Led.keyB key) = true) (hh : Led.hasB (Led.ky M) key = true) (hs2 : (atM M key).st = 1) (he : (mvX Act.chKe (atA A (atM M key).t) (atM M key).k (atM M key).t (atM M key).n) ≠ 0) :
    Calls Try.prog 23 #[.int .i64 3, .agg #[.slice adA A.length capA, .slice adM M.length capM], .string key] w fun e w' => e = .returned (.tuple #[.agg #[.slice none 0 0, .slice none 0 0], .int .i64 (mvX Act.chKe (atA A (atM M key).t) (atM M key).k (atM M key).t (atM M key).n)]) ∧ Gr w w' := by
  have HM : Hid (∀ w', Gr w w' → Calls Try.prog 15 #[.agg #[.slice adA A.length capA, .slice adM M.length capM]] w' fun e w2 => e = .returned (.int .i64 (mayL A M)) ∧ Gr w' w2) := fun w' g => refMay7_any A M adA capA adM capM w' (h.gr g)
  have HK : Hid (∀ w', Calls Try.prog 43 #[.string key] w' fun e w2 => e = .returned (.bool (Led.keyB key)) ∧ w2 = w') := fun w' => refKey_any key w' hs
  have HI : Hid (∀ w', Gr w w' → Calls Try.prog 48 #[.agg #[.slice adA A.length capA, .slice adM M.length capM], .string key] w' fun e w2 => e = .returned (.int .i64 (firstI (Led.ky M) key)) ∧ Gr w' w2) := fun w' g => refMk_any A M key adA capA adM capM w' (h.m.gr g) h.lm
  obtain ⟨hm, hkb⟩ : Led.mayB A M = true ∧ Led.keyB key = true := by simpa only [Bool.and_eq_true] using hall
  rw [mayL_yes hm] at HM
  rw [hkb] at HK
  have hM := (Led.may_iff A M).1 hm
  obtain ⟨hp, hpe⟩ := Led.pos_mem hM.um ((Led.has_iff _ _).1 hh)
  rw [Led.ky_len] at hp
  obtain ⟨bb, oo, rfl, hb0, _⟩ := MksAt.at h.m (Led.pos (Led.ky M) key) hp
  have hx : M[Led.pos (Led.ky M) key] = atM M key := by unfold atM; rw [List.getD_eq_getElem?_getD, List.getElem?_eq_getElem hp]; rfl
  rw [first_pos hM.um hh] at HI
  have HMM : Hid (MksAt w (some ⟨bb, oo, none⟩) M) := h.m
  have hpi : (Led.pos (Led.ky M) key : Int) < (M.length : Int) := by omega
  have hmm : atM M key ∈ M := by rw [← hx]; exact List.getElem_mem hp
  have hh2 := mk_acc hM hmm
  have hmt : (atM M key).t.size ≤ 9223372036854775807 := (h.rm _ hmm).2.2.1
  have HJ : Hid (∀ w', Gr w w' → Calls Try.prog 32 #[.agg #[.slice adA A.length capA, .slice (some ⟨bb, oo, none⟩) M.length capM], .string (atM M key).t] w' fun e w2 => e = .returned (.int .i64 (firstI (Led.nm A) (atM M key).t)) ∧ Gr w' w2) := fun w' g => refAcc_any A M (atM M key).t adA capA _ capM w' (h.a.gr g) h.la
  rw [first_pos hM.ua hh2] at HJ
  obtain ⟨ha, hae⟩ := Led.pos_mem hM.ua ((Led.has_iff _ _).1 hh2)
  rw [Led.nm_len] at ha
  obtain ⟨ba, oa, rfl, ha0, _⟩ := AccsAt.at h.a (Led.pos (Led.nm A) (atM M key).t) ha
  have hxx : A[Led.pos (Led.nm A) (atM M key).t] = (atA A (atM M key).t) := by unfold atA; rw [List.getD_eq_getElem?_getD, List.getElem?_eq_getElem ha]; rfl
  have hxa : inA (atA A (atM M key).t) := by rw [← hxx]; exact h.ra _ (List.getElem_mem ha)
  have HD : Hid (∀ w', Calls Try.prog 58 #[.int .i64 3, .agg #[.string (atA A (atM M key).t).s, .int .i64 (atA A (atM M key).t).a, .int .i64 (atA A (atM M key).t).b, .int .i64 (atA A (atM M key).t).c, .int .i64 (atA A (atM M key).t).x, .int .i64 (atA A (atM M key).t).y, .int .i64 (atA A (atM M key).t).z], .agg #[.int .i64 (atM M key).k, .string (atM M key).t, .int .i64 (atM M key).n]] w' fun e w2 => e = .returned (.tuple #[.agg #[.string (mvY Act.chKe (atA A (atM M key).t) (atM M key).k (atM M key).t (atM M key).n).s, .int .i64 (mvY Act.chKe (atA A (atM M key).t) (atM M key).k (atM M key).t (atM M key).n).a, .int .i64 (mvY Act.chKe (atA A (atM M key).t) (atM M key).k (atM M key).t (atM M key).n).b, .int .i64 (mvY Act.chKe (atA A (atM M key).t) (atM M key).k (atM M key).t (atM M key).n).c, .int .i64 (mvY Act.chKe (atA A (atM M key).t) (atM M key).k (atM M key).t (atM M key).n).x, .int .i64 (mvY Act.chKe (atA A (atM M key).t) (atM M key).k (atM M key).t (atM M key).n).y, .int .i64 (mvY Act.chKe (atA A (atM M key).t) (atM M key).k (atM M key).t (atM M key).n).z], .int .i64 (mvX Act.chKe (atA A (atM M key).t) (atM M key).k (atM M key).t (atM M key).n)]) ∧ Gr w' w2) := fun w' => refDoX 3 Act.chKe (atA A (atM M key).t) (atM M key).k (atM M key).n (atM M key).t w' hxa.1 hmt (fun h i o out w2 => refPot3_any h i o (atM M key).n out w2)
  have HAA : Hid (AccsAt w (some ⟨ba, oa, none⟩) A) := h.a
  have hai : (Led.pos (Led.nm A) (atM M key).t : Int) < (A.length : Int) := by omega
  have hne : ((mvX Act.chKe (atA A (atM M key).t) (atM M key).k (atM M key).t (atM M key).n) == 0) = false := by rw [beq_eq_false_iff_ne]; exact he
  clear h hm hkb hM hh hall hpe he hmm hh2 hmt hae hxa hs
  generalize (mvX Act.chKe (atA A (atM M key).t) (atM M key).k (atM M key).t (atM M key).n) = er at *
  generalize (mvY Act.chKe (atA A (atM M key).t) (atM M key).k (atM M key).t (atM M key).n) = y at *
  generalize (atA A (atM M key).t) = x at *
  generalize hpp : Led.pos (Led.nm A) (atM M key).t = pa at *
  clear hpp
  generalize atM M key = m at *
  generalize Led.pos (Led.ky M) key = p at *
  go_enter Try.func23, Try.ntmps23
  go_wp2_with fail
  refine (HM.out _ ((Gr.refl _).alloc.alloc)).mono ?_
  rintro e w1 ⟨rfl, hg1⟩
  have HB1 : Hid (TwoAt w1 w.heap.size (.slice (some ⟨ba, oa, none⟩) A.length capA) (.slice (some ⟨bb, oo, none⟩) M.length capM)) := ((TwoAt.new w _ _ _ _ rfl).gr (Gr.refl _).alloc).gr hg1
  have HR1 : Hid (TwoAt w1 (w.heap.size + 1) (.slice none 0 0) (.slice none 0 0)) := (TwoAt.new _ _ _ _ (w.heap.size + 1) (by simp)).gr hg1
  have g1 : Gr w w1 := (by repeat (first | exact Gr.refl _ | refine Gr.alloc ?_ | refine Gr.drew ?_ | refine Gr.trans ?_ (by assumption)))
  clear hg1
  go_wp2_with fail
  refine (HK.out _).mono ?_
  rintro e w2 ⟨rfl, hw2⟩; obtain rfl := hw2.symm
  obtain ⟨b0, b1, _, _, bl⟩ := HB1.out
  go_wp2_with fail
  refine (HI.out _ g1).mono ?_
  rintro e w2 ⟨rfl, hg2⟩
  have HB2 : Hid (TwoAt w2 w.heap.size (.slice (some ⟨ba, oa, none⟩) A.length capA) (.slice (some ⟨bb, oo, none⟩) M.length capM)) := HB1.out.gr hg2
  have HR2 : Hid (TwoAt w2 (w.heap.size + 1) (.slice none 0 0) (.slice none 0 0)) := HR1.out.gr hg2
  have g2 : Gr w w2 := g1.trans hg2
  clear hg2 g1 b0 b1 bl HB1 HR1
  obtain ⟨b0, b1, bf0, bf1, bl⟩ := HB2.out
  obtain ⟨_, _, ee, hbw, d0, d1, d2, d3, d4⟩ := MksAt.at (RowAt.gr HMM.out g2) p hp
  cases ee
  rw [hx] at d0 d1 d2 d3 d4
  rw [hs2] at d4
  have HF3 : Hid (MbAt (w2.alloc (.cells #[.string m.key, .int .i64 m.k, .string m.t, .int .i64 m.n, .int .i64 1] 64)) w2.heap.size m) := by have := MbAt.new w2 m 64 _ rfl; rw [hs2] at this; exact this
  go_upto_region 14 with fail
  obtain ⟨w3, hw3⟩ : ∃ W, W = w2.alloc (.cells #[.string m.key, .int .i64 m.k, .string m.t, .int .i64 m.n, .int .i64 1] 64) := ⟨_, rfl⟩
  have hg3 : Gr w2 w3 := by rw [hw3]; exact (Gr.refl _).alloc
  rw [← hw3] at HF3 ⊢
  have HB3 : Hid (TwoAt w3 w.heap.size (.slice (some ⟨ba, oa, none⟩) A.length capA) (.slice (some ⟨bb, oo, none⟩) M.length capM)) := HB2.out.gr hg3
  have HR3 : Hid (TwoAt w3 (w.heap.size + 1) (.slice none 0 0) (.slice none 0 0)) := HR2.out.gr hg3
  have g3 : Gr w w3 := g2.trans hg3
  have hBl : w.heap.size + 1 < w2.heap.size := HR2.out.lt
  clear hw3 hg3 b0 b1 bf0 bf1 bl d0 d1 d2 d3 d4 hbw HB2 HR2 g2
  obtain ⟨Bm, hBm⟩ : ∃ x, w2.heap.size = x := ⟨_, rfl⟩
  rw [hBm] at HF3 hBl ⊢
  clear hBm
  obtain ⟨b0, b1, bf0, bf1, bl⟩ := HB3.out
  obtain ⟨m0, m1, m2, m3, m4, ml⟩ := HF3.out.c
  obtain ⟨_, _, ee, hbw, d0, d1, d2, d3, d4, d5, d6⟩ := AccsAt.at (RowAt.gr HAA.out g3) pa ha
  cases ee
  rw [hxx] at d0 d1 d2 d3 d4 d5 d6
  go_cut [11, 12] (fun sp se wx => ∃ Q : Nat, sp = .pointer (some ⟨Q, 0, none⟩) ∧ se = .int .i64 er ∧ AccAt wx Q (.string y.s) (.int .i64 y.a) (.int .i64 y.b) (.int .i64 y.c) (.int .i64 y.x) (.int .i64 y.y) (.int .i64 y.z) ∧ Bm < Q ∧ Gr w3 wx)
  case first =>
    refine wp_region_held_drew (S := (fun w' => Gr w3 w' ∧ w'.cell? ⟨w.heap.size, 0, none⟩ = some (.slice (some ⟨ba, oa, none⟩) A.length capA) ∧ w'.cell? ⟨w.heap.size, 1, none⟩ = some (.slice (some ⟨bb, oo, none⟩) M.length capM) ∧ w'.cell? ⟨Bm, 1, none⟩ = some (.int .i64 m.k) ∧ w'.cell? ⟨Bm, 2, none⟩ = some (.string m.t) ∧ w'.cell? ⟨Bm, 3, none⟩ = some (.int .i64 m.n) ∧ w'.cell? ⟨ba, oa + pa * 7, none⟩ = some (.string x.s) ∧ w'.cell? ⟨ba, oa + pa * 7 + 1, none⟩ = some (.int .i64 x.a) ∧ w'.cell? ⟨ba, oa + pa * 7 + 2, none⟩ = some (.int .i64 x.b) ∧ w'.cell? ⟨ba, oa + pa * 7 + 3, none⟩ = some (.int .i64 x.c) ∧ w'.cell? ⟨ba, oa + pa * 7 + 4, none⟩ = some (.int .i64 x.x) ∧ w'.cell? ⟨ba, oa + pa * 7 + 5, none⟩ = some (.int .i64 x.y) ∧ w'.cell? ⟨ba, oa + pa * 7 + 6, none⟩ = some (.int .i64 x.z))) (by kernel_rfl) (by exact holdD12 (by (with_reducible repeat' (first | exact Gr.refl _ | refine Gr.set ?_ _ ?_ _ | refine Gr.alloc ?_ | refine Gr.drew ?_ | refine Gr.trans ?_ (by assumption))) <;> (first | (simp; done) | (simp; omega) | omega)) b0 b1 m1 m2 m3 d0 d1 d2 d3 d4 d5 d6) (fun hHeld => ?_)
    refine ty 0 45 hHeld ?_
    refine ty 1 46 hHeld ?_
    refine ty 2 47 hHeld ?_
    refine ty 3 48 hHeld ?_
    refine ty 4 49 hHeld ?_
    refine ty 5 50 hHeld ?_
    refine ty 6 51 hHeld ?_
    refine ty 10 55 hHeld ?_
    refine ty 11 56 hHeld ?_
    refine wpAnyH_ready (rs := [7, 16]) (by kernel_rfl) (by simp) (AllReadyH.cons rfl (fun K hK => ?_) (AllReadyH.cons rfl (fun K hK => ?_) AllReadyH.nil))
    · skip
      go_simp
      (go_at_call 32; refine (HJ.out _ (g3.trans (by (with_reducible repeat' (first | exact Gr.refl _ | refine Gr.set ?_ _ ?_ _ | refine Gr.alloc ?_ | refine Gr.drew ?_ | refine Gr.trans ?_ (by assumption))) <;> (first | (simp; done) | (simp; omega) | omega)))).mono ?_; rintro e wm ⟨rfl, hgm⟩; have hzm := hgm.size; (try simp at hzm))
      (try go_wp2_with fail)
      refine hK.out _ _ (by exact holdD12 (by (with_reducible repeat' (first | exact Gr.refl _ | refine Gr.set ?_ _ ?_ _ | refine Gr.alloc ?_ | refine Gr.drew ?_ | refine Gr.trans ?_ (by assumption))) <;> (first | (simp; done) | (simp; omega) | omega)) b0 b1 m1 m2 m3 d0 d1 d2 d3 d4 d5 d6) (fun hHeldN => ?_)
      clear hHeld hK K
      have hHeld := hHeldN
      clear hHeldN
      refine ty 8 53 hHeld ?_
      refine ty 9 54 hHeld ?_
      refine wpAnyH_ready (rs := [12, 16]) (by kernel_rfl) (by simp) (AllReadyH.cons rfl (fun K hK => ?_) (AllReadyH.cons rfl (fun K hK => ?_) AllReadyH.nil))
      · skip
        go_simp
        (go_at_call 58; refine (HD.out _).mono ?_; rintro e wn ⟨rfl, hgn⟩; have hzn := hgn.size; (try simp at hzn))
        (try go_wp2_with fail)
        refine hK.out _ _ (by exact holdD12 (by (with_reducible repeat' (first | exact Gr.refl _ | refine Gr.set ?_ _ ?_ _ | refine Gr.alloc ?_ | refine Gr.drew ?_ | refine Gr.trans ?_ (by assumption))) <;> (first | (simp; done) | (simp; omega) | omega)) b0 b1 m1 m2 m3 d0 d1 d2 d3 d4 d5 d6) (fun hHeldN => ?_)
        clear hHeld hK K
        have hHeld := hHeldN
        clear hHeldN
        refine ty 13 44 hHeld ?_
        refine ty 14 58 hHeld ?_
        refine ty 15 59 hHeld ?_
        refine wpAnyH_ready (rs := [16]) (by kernel_rfl) (by simp) (AllReadyH.cons rfl (fun K hK => ?_) AllReadyH.nil)
        go_simp
        refine hK.out _ _ (by exact holdD12 (by (with_reducible repeat' (first | exact Gr.refl _ | refine Gr.set ?_ _ ?_ _ | refine Gr.alloc ?_ | refine Gr.drew ?_ | refine Gr.trans ?_ (by assumption))) <;> (first | (simp; done) | (simp; omega) | omega)) b0 b1 m1 m2 m3 d0 d1 d2 d3 d4 d5 d6) (fun hHeldN => ?_)
        clear hHeld hK K
        have hHeld := hHeldN
        clear hHeldN
        refine wpAnyH_ready (rs := [17]) (by kernel_rfl) (by simp) (AllReadyH.cons rfl (fun K hK => ?_) AllReadyH.nil)
        go_simp
        refine hK.out _ _ (by exact holdD12 (by (with_reducible repeat' (first | exact Gr.refl _ | refine Gr.set ?_ _ ?_ _ | refine Gr.alloc ?_ | refine Gr.drew ?_ | refine Gr.trans ?_ (by assumption))) <;> (first | (simp; done) | (simp; omega) | omega)) b0 b1 m1 m2 m3 d0 d1 d2 d3 d4 d5 d6) (fun hHeldN => ?_)
        clear hHeld hK K
        have hHeld := hHeldN
        clear hHeldN
        refine ty 18 12 hHeld ?_
        refine wpAnyH_done (by kernel_rfl) ?_ _
        go_wp2_with fail
        go_meet
        exact ⟨_, rfl, rfl, AccAt.new wn _ _ _ _ _ _ _ _ _ rfl, by omega, (by (with_reducible repeat' (first | exact Gr.refl _ | refine Gr.set ?_ _ ?_ _ | refine Gr.alloc ?_ | refine Gr.drew ?_ | refine Gr.trans ?_ (by assumption))) <;> (first | (simp; done) | (simp; omega) | omega))⟩
      · skip
        go_simp
        refine hK.out _ _ (by exact holdD12 (by (with_reducible repeat' (first | exact Gr.refl _ | refine Gr.set ?_ _ ?_ _ | refine Gr.alloc ?_ | refine Gr.drew ?_ | refine Gr.trans ?_ (by assumption))) <;> (first | (simp; done) | (simp; omega) | omega)) b0 b1 m1 m2 m3 d0 d1 d2 d3 d4 d5 d6) (fun hHeldN => ?_)
        clear hHeld hK K
        have hHeld := hHeldN
        clear hHeldN
        refine wpAnyH_ready (rs := [12]) (by kernel_rfl) (by simp) (AllReadyH.cons rfl (fun K hK => ?_) AllReadyH.nil)
        go_simp
        (go_at_call 58; refine (HD.out _).mono ?_; rintro e wn ⟨rfl, hgn⟩; have hzn := hgn.size; (try simp at hzn); have hbz := (AccAt.new wm _ _ _ _ _ _ _ _ _ rfl).gr hgn; have HBZ : Hid (AccAt wn wm.heap.size _ _ _ _ _ _ _) := hbz; obtain ⟨z0, z1, z2, z3, z4, z5, z6⟩ := hbz.cells; obtain ⟨y0, y1, y2, y3, y4, y5, y6⟩ := hbz.frozens; have zl := hbz.lt; clear hbz)
        (try go_wp2_with fail)
        refine hK.out _ _ (by exact holdD12 (by (with_reducible repeat' (first | exact Gr.refl _ | refine Gr.set ?_ _ ?_ _ | refine Gr.alloc ?_ | refine Gr.drew ?_ | refine Gr.trans ?_ (by assumption))) <;> (first | (simp; done) | (simp; omega) | omega)) b0 b1 m1 m2 m3 d0 d1 d2 d3 d4 d5 d6) (fun hHeldN => ?_)
        clear hHeld hK K
        have hHeld := hHeldN
        clear hHeldN
        refine ty 13 44 hHeld ?_
        refine ty 14 58 hHeld ?_
        refine ty 15 59 hHeld ?_
        refine wpAnyH_ready (rs := [17]) (by kernel_rfl) (by simp) (AllReadyH.cons rfl (fun K hK => ?_) AllReadyH.nil)
        go_simp
        refine hK.out _ _ (by exact holdD12 (by (with_reducible repeat' (first | exact Gr.refl _ | refine Gr.set ?_ _ ?_ _ | refine Gr.alloc ?_ | refine Gr.drew ?_ | refine Gr.trans ?_ (by assumption))) <;> (first | (simp; done) | (simp; omega) | omega)) b0 b1 m1 m2 m3 d0 d1 d2 d3 d4 d5 d6) (fun hHeldN => ?_)
        clear hHeld hK K
        have hHeld := hHeldN
        clear hHeldN
        refine ty 18 12 hHeld ?_
        refine wpAnyH_done (by kernel_rfl) ?_ _
        go_wp2_with fail
        go_meet
        exact ⟨_, rfl, rfl, HBZ.out.set7 _ _ _ _ _ _ _, by omega, (by (with_reducible repeat' (first | exact Gr.refl _ | refine Gr.set ?_ _ ?_ _ | refine Gr.alloc ?_ | refine Gr.drew ?_ | refine Gr.trans ?_ (by assumption))) <;> (first | (simp; done) | (simp; omega) | omega))⟩
    · skip
      go_simp
      refine hK.out _ _ (by exact holdD12 (by (with_reducible repeat' (first | exact Gr.refl _ | refine Gr.set ?_ _ ?_ _ | refine Gr.alloc ?_ | refine Gr.drew ?_ | refine Gr.trans ?_ (by assumption))) <;> (first | (simp; done) | (simp; omega) | omega)) b0 b1 m1 m2 m3 d0 d1 d2 d3 d4 d5 d6) (fun hHeldN => ?_)
      clear hHeld hK K
      have hHeld := hHeldN
      clear hHeldN
      refine wpAnyH_ready (rs := [7]) (by kernel_rfl) (by simp) (AllReadyH.cons rfl (fun K hK => ?_) AllReadyH.nil)
      go_simp
      (go_at_call 32; refine (HJ.out _ (g3.trans (by (with_reducible repeat' (first | exact Gr.refl _ | refine Gr.set ?_ _ ?_ _ | refine Gr.alloc ?_ | refine Gr.drew ?_ | refine Gr.trans ?_ (by assumption))) <;> (first | (simp; done) | (simp; omega) | omega)))).mono ?_; rintro e wm ⟨rfl, hgm⟩; have hzm := hgm.size; (try simp at hzm); have hby := ((AccAt.new w3 _ _ _ _ _ _ _ _ _ rfl).gr (Gr.refl _).drew).gr hgm; have HBY : Hid (AccAt wm w3.heap.size _ _ _ _ _ _ _) := hby; clear hby)
      (try go_wp2_with fail)
      refine hK.out _ _ (by exact holdD12 (by (with_reducible repeat' (first | exact Gr.refl _ | refine Gr.set ?_ _ ?_ _ | refine Gr.alloc ?_ | refine Gr.drew ?_ | refine Gr.trans ?_ (by assumption))) <;> (first | (simp; done) | (simp; omega) | omega)) b0 b1 m1 m2 m3 d0 d1 d2 d3 d4 d5 d6) (fun hHeldN => ?_)
      clear hHeld hK K
      have hHeld := hHeldN
      clear hHeldN
      refine ty 8 53 hHeld ?_
      refine ty 9 54 hHeld ?_
      refine wpAnyH_ready (rs := [12]) (by kernel_rfl) (by simp) (AllReadyH.cons rfl (fun K hK => ?_) AllReadyH.nil)
      go_simp
      (go_at_call 58; refine (HD.out _).mono ?_; rintro e wn ⟨rfl, hgn⟩; have hzn := hgn.size; (try simp at hzn); have hbz := HBY.out.gr hgn; have HBZ : Hid (AccAt wn w3.heap.size _ _ _ _ _ _ _) := hbz; obtain ⟨z0, z1, z2, z3, z4, z5, z6⟩ := hbz.cells; obtain ⟨y0, y1, y2, y3, y4, y5, y6⟩ := hbz.frozens; have zl := hbz.lt; clear hbz)
      (try go_wp2_with fail)
      refine hK.out _ _ (by exact holdD12 (by (with_reducible repeat' (first | exact Gr.refl _ | refine Gr.set ?_ _ ?_ _ | refine Gr.alloc ?_ | refine Gr.drew ?_ | refine Gr.trans ?_ (by assumption))) <;> (first | (simp; done) | (simp; omega) | omega)) b0 b1 m1 m2 m3 d0 d1 d2 d3 d4 d5 d6) (fun hHeldN => ?_)
      clear hHeld hK K
      have hHeld := hHeldN
      clear hHeldN
      refine ty 13 44 hHeld ?_
      refine ty 14 58 hHeld ?_
      refine ty 15 59 hHeld ?_
      refine wpAnyH_ready (rs := [17]) (by kernel_rfl) (by simp) (AllReadyH.cons rfl (fun K hK => ?_) AllReadyH.nil)
      go_simp
      refine hK.out _ _ (by exact holdD12 (by (with_reducible repeat' (first | exact Gr.refl _ | refine Gr.set ?_ _ ?_ _ | refine Gr.alloc ?_ | refine Gr.drew ?_ | refine Gr.trans ?_ (by assumption))) <;> (first | (simp; done) | (simp; omega) | omega)) b0 b1 m1 m2 m3 d0 d1 d2 d3 d4 d5 d6) (fun hHeldN => ?_)
      clear hHeld hK K
      have hHeld := hHeldN
      clear hHeldN
      refine ty 18 12 hHeld ?_
      refine wpAnyH_done (by kernel_rfl) ?_ _
      go_wp2_with fail
      go_meet
      exact ⟨_, rfl, rfl, HBZ.out.set7 _ _ _ _ _ _ _, by omega, (by (with_reducible repeat' (first | exact Gr.refl _ | refine Gr.set ?_ _ ?_ _ | refine Gr.alloc ?_ | refine Gr.drew ?_ | refine Gr.trans ?_ (by assumption))) <;> (first | (simp; done) | (simp; omega) | omega))⟩
  case rest =>
  obtain ⟨w4, rfl⟩ : ∃ x, x = wc := ⟨_, rfl⟩
  obtain ⟨Q, rfl, rfl, hQA, hQB, hg4⟩ := hcut
  have HQA : Hid (AccAt w4 Q (.string y.s) (.int .i64 y.a) (.int .i64 y.b) (.int .i64 y.c) (.int .i64 y.x) (.int .i64 y.y) (.int .i64 y.z)) := hQA
  have HB4 : Hid (TwoAt w4 w.heap.size (.slice (some ⟨ba, oa, none⟩) A.length capA) (.slice (some ⟨bb, oo, none⟩) M.length capM)) := HB3.out.gr hg4
  have HR4 : Hid (TwoAt w4 (w.heap.size + 1) (.slice none 0 0) (.slice none 0 0)) := HR3.out.gr hg4
  have HF4 : Hid (MbAt w4 Bm m) := HF3.out.gr hg4
  have g4 : Gr w w4 := g3.trans hg4
  clear hQA hg4 b0 b1 bf0 bf1 bl m0 m1 m2 m3 m4 ml d0 d1 d2 d3 d4 d5 d6 hbw HB3 HR3 HF3 g3 HD HJ
  obtain ⟨r0, r1, f0, f1, rl⟩ := HR4.out
  go_wp2
  exact bodyPost_ret (v := .tuple #[.agg #[.slice none 0 0, .slice none 0 0], .int .i64 er]) (by simp [results, Try.results23, go_sem, *]) rfl ⟨rfl, (g4.set _ (by simp) _).set _ (by simp) _⟩
end Go.Proofs.Ytgidkmipecfjhaa
