/- What the proof is made of, part 16. -/
import Derived.Test.YtgidkmipecfjhaaTLLDoes15
namespace Go.Proofs.Ytgidkmipecfjhaa
open Go.RowKit
open Led (Acc Mk)
def mkZ : Mk := ⟨⟨#[]⟩, 0, ⟨#[]⟩, 0, 0⟩
def atM (M : List Mk) (key : ByteArray) : Mk := M.getD (Led.pos (Led.ky M) key) mkZ
def sameB (m : Mk) (k : Int) (t : ByteArray) (n : Int) : Bool := decide (m.k = k) && decide (m.t = t) && decide (m.n = n) && decide (m.st = 1)
def doE (A : List Acc) (M : List Mk) (key : ByteArray) (k : Int) (t : ByteArray) (n : Int) : Int :=
  if (Led.mayB A M && Led.keyB key) = true then (if Act.actB k t n = true then (if Led.hasB (Led.ky M) key = true then (if sameB (atM M key) k t n = true then 0 else 72) else begE A M k t n) else 60) else 2
def doA (A : List Acc) (M : List Mk) (key : ByteArray) (k : Int) (t : ByteArray) (n : Int) : List Acc := if Led.hasB (Led.ky M) key = true then A else A.set (Led.pos (Led.nm A) t) (mvA Act.chDo (atA A t) k n)
def doM (M : List Mk) (key : ByteArray) (k : Int) (t : ByteArray) (n : Int) : List Mk := if Led.hasB (Led.ky M) key = true then M else insK M ⟨key, k, t, n, 1⟩
theorem same_iff (m : Mk) (k : Int) (t : ByteArray) (n : Int) : sameB m k t n = true ↔ m.k = k ∧ m.t = t ∧ m.n = n ∧ m.st = 1 := by
  unfold sameB; simp only [Bool.and_eq_true, decide_eq_true_eq]
  constructor
  · rintro ⟨⟨⟨a, b⟩, c⟩, d⟩; exact ⟨a, b, c, d⟩
  · rintro ⟨a, b, c, d⟩; exact ⟨⟨⟨a, b⟩, c⟩, d⟩
theorem neB {x y : ByteArray} (h : x ≠ y) : (x.toList == y.toList) = false := by rw [eqB, decide_eq_false h]
set_option maxHeartbeats 4000000 in
set_option maxRecDepth 100000 in
theorem do_no (A : List Acc) (M : List Mk) (key : ByteArray) (k n : Int) (t : ByteArray) (adA : Option Addr) (capA : Nat) (adM : Option Addr) (capM : Nat) (w : World) (h : LedAt w adA adM A M) (hs : key.size ≤ 9223372036854775807) (ht : t.size ≤ 9223372036854775807) (he : doE A M key k t n ≠ 0) :
    Calls Try.prog 20 #[.agg #[.slice adA A.length capA, .slice adM M.length capM], .string key, .agg #[.int .i64 k, .string t, .int .i64 n]] w fun e w' => e = .returned (.tuple #[.agg #[.slice none 0 0, .slice none 0 0], .int .i64 (doE A M key k t n)]) ∧ Gr w w' := by
  have HM : Hid (∀ w', Gr w w' → Calls Try.prog 14 #[.agg #[.slice adA A.length capA, .slice adM M.length capM]] w' fun e w2 => e = .returned (.int .i64 (mayL A M)) ∧ Gr w' w2) := fun w' g => (h.gr g).may capA capM
  have HK : Hid (∀ w', Calls Try.prog 55 #[.string key] w' fun e w2 => e = .returned (.bool (Led.keyB key)) ∧ w2 = w') := fun w' => isKey_any key w' hs
  have HC : Hid (∀ w', Calls Try.prog 56 #[.agg #[.int .i64 k, .string t, .int .i64 n]] w' fun e w2 => e = .returned (.int .i64 (Act.chkE k t n)) ∧ Gr w' w2) := fun w' => actCheck_any k n t w' ht
  cases hm : Led.mayB A M with
  | false =>
    have HE : Hid (doE A M key k t n = 2) := by show _ = _; unfold doE; rw [hm]; rfl
    rw [mayL_no hm] at HM
    clear h hm he HK HC
    go_enter Try.func20, Try.ntmps20
    go_wp2_with fail
    refine (HM.out _ ((Gr.refl _).alloc.alloc.alloc)).mono ?_
    rintro e w1 ⟨rfl, hg1⟩
    have HB1 : Hid (TwoAt w1 w.heap.size (.slice adA A.length capA) (.slice adM M.length capM)) := (((TwoAt.new w _ _ _ _ rfl).gr (Gr.refl _).alloc).gr (Gr.refl _).alloc).gr hg1
    have HX1 : Hid (BoxAt w1 (w.heap.size + 1) (.int .i64 k) (.string t) (.int .i64 n)) := ((BoxAt.new _ _ _ _ _ (w.heap.size + 1) (by simp)).gr (Gr.refl _).alloc).gr hg1
    have HR1 : Hid (TwoAt w1 (w.heap.size + 1 + 1) (.slice none 0 0) (.slice none 0 0)) := (TwoAt.new _ _ _ _ (w.heap.size + 1 + 1) (by simp)).gr hg1
    have g1 : Gr w w1 := (by repeat (first | exact Gr.refl _ | refine Gr.alloc ?_ | refine Gr.drew ?_ | refine Gr.trans ?_ (by assumption)))
    clear hg1
    obtain ⟨r0, r1, f0, f1, rl⟩ := HR1.out
    go_wp2
    exact bodyPost_ret (v := .tuple #[.agg #[.slice none 0 0, .slice none 0 0], .int .i64 2]) (by simp [results, Try.results20, go_sem, *]) rfl ⟨by rw [HE.out], (g1.set _ (by simp; omega) _).set _ (by simp; omega) _⟩
  | true =>
    rw [mayL_yes hm] at HM
    have hM := (Led.may_iff A M).1 hm
    have HF : Hid (∀ w', Gr w w' → Calls Try.prog 47 #[.slice adM M.length capM, .string key] w' fun e w2 => e = .returned (.tuple #[.int .i64 (Led.pos (Led.ky M) key : Nat), .bool (Led.hasB (Led.ky M) key)]) ∧ Gr w' w2) := fun w' g => findM_any M key adM capM w' (h.m.gr g) hM.um (by have := hM.lm; omega)
    cases hkb : Led.keyB key with
    | false =>
      have HE : Hid (doE A M key k t n = 2) := by show _ = _; unfold doE; rw [hm, hkb]; rfl
      rw [hkb] at HK
      clear h hm he HC hM HF hkb
      go_enter Try.func20, Try.ntmps20
      go_wp2_with fail
      refine (HM.out _ ((Gr.refl _).alloc.alloc.alloc)).mono ?_
      rintro e w1 ⟨rfl, hg1⟩
      have HB1 : Hid (TwoAt w1 w.heap.size (.slice adA A.length capA) (.slice adM M.length capM)) := (((TwoAt.new w _ _ _ _ rfl).gr (Gr.refl _).alloc).gr (Gr.refl _).alloc).gr hg1
      have HX1 : Hid (BoxAt w1 (w.heap.size + 1) (.int .i64 k) (.string t) (.int .i64 n)) := ((BoxAt.new _ _ _ _ _ (w.heap.size + 1) (by simp)).gr (Gr.refl _).alloc).gr hg1
      have HR1 : Hid (TwoAt w1 (w.heap.size + 1 + 1) (.slice none 0 0) (.slice none 0 0)) := (TwoAt.new _ _ _ _ (w.heap.size + 1 + 1) (by simp)).gr hg1
      have g1 : Gr w w1 := (by repeat (first | exact Gr.refl _ | refine Gr.alloc ?_ | refine Gr.drew ?_ | refine Gr.trans ?_ (by assumption)))
      clear hg1
      go_wp2_with fail
      refine (HK.out _).mono ?_
      rintro e w2 ⟨rfl, hw2⟩; obtain rfl := hw2.symm
      obtain ⟨r0, r1, f0, f1, rl⟩ := HR1.out
      go_wp2
      exact bodyPost_ret (v := .tuple #[.agg #[.slice none 0 0, .slice none 0 0], .int .i64 2]) (by simp [results, Try.results20, go_sem, *]) rfl ⟨by rw [HE.out], (g1.set _ (by simp; omega) _).set _ (by simp; omega) _⟩
    | true =>
      rw [hkb] at HK
      cases hab : Act.actB k t n with
      | false =>
        have HE : Hid (doE A M key k t n = 60) := by show _ = _; unfold doE; rw [hm, hkb, hab]; rfl
        rw [Act.chk_no hab] at HC
        clear h hm he hM HF hkb hab
        go_enter Try.func20, Try.ntmps20
        go_wp2_with fail
        refine (HM.out _ ((Gr.refl _).alloc.alloc.alloc)).mono ?_
        rintro e w1 ⟨rfl, hg1⟩
        have HB1 : Hid (TwoAt w1 w.heap.size (.slice adA A.length capA) (.slice adM M.length capM)) := (((TwoAt.new w _ _ _ _ rfl).gr (Gr.refl _).alloc).gr (Gr.refl _).alloc).gr hg1
        have HX1 : Hid (BoxAt w1 (w.heap.size + 1) (.int .i64 k) (.string t) (.int .i64 n)) := ((BoxAt.new _ _ _ _ _ (w.heap.size + 1) (by simp)).gr (Gr.refl _).alloc).gr hg1
        have HR1 : Hid (TwoAt w1 (w.heap.size + 1 + 1) (.slice none 0 0) (.slice none 0 0)) := (TwoAt.new _ _ _ _ (w.heap.size + 1 + 1) (by simp)).gr hg1
        have g1 : Gr w w1 := (by repeat (first | exact Gr.refl _ | refine Gr.alloc ?_ | refine Gr.drew ?_ | refine Gr.trans ?_ (by assumption)))
        clear hg1
        go_wp2_with fail
        refine (HK.out _).mono ?_
        rintro e w2 ⟨rfl, hw2⟩; obtain rfl := hw2.symm
        obtain ⟨a0, a1, a2, _, _, _, al⟩ := HX1.out
        go_wp2_with fail
        refine (HC.out _).mono ?_
        rintro e w2 ⟨rfl, hg2⟩
        have HB2 : Hid (TwoAt w2 w.heap.size (.slice adA A.length capA) (.slice adM M.length capM)) := HB1.out.gr hg2
        have HX2 : Hid (BoxAt w2 (w.heap.size + 1) (.int .i64 k) (.string t) (.int .i64 n)) := HX1.out.gr hg2
        have HR2 : Hid (TwoAt w2 (w.heap.size + 1 + 1) (.slice none 0 0) (.slice none 0 0)) := HR1.out.gr hg2
        have g2 : Gr w w2 := g1.trans hg2
        clear hg2 g1 a0 a1 a2 al HB1 HX1 HR1
        obtain ⟨r0, r1, f0, f1, rl⟩ := HR2.out
        go_wp2
        exact bodyPost_ret (v := .tuple #[.agg #[.slice none 0 0, .slice none 0 0], .int .i64 60]) (by simp [results, Try.results20, go_sem, *]) rfl ⟨by rw [HE.out], (g2.set _ (by simp; omega) _).set _ (by simp; omega) _⟩
      | true =>
        rw [Act.chk_yes hab] at HC
        cases hh : Led.hasB (Led.ky M) key with
        | false =>
          rw [hh] at HF
          have hE0 : doE A M key k t n = begE A M k t n := by unfold doE; rw [hm, hkb, hab, hh]; rfl
          rw [hE0] at he ⊢
          have HG : Hid (∀ w', Gr w w' → Calls Try.prog 57 #[.agg #[.slice adA A.length capA, .slice adM M.length capM], .int .i64 (Led.pos (Led.ky M) key : Nat), .string key, .agg #[.int .i64 k, .string t, .int .i64 n]] w' fun e w2 => e = .returned (.tuple #[.agg #[.slice none 0 0, .slice none 0 0], .int .i64 (begE A M k t n)]) ∧ Gr w' w2) := fun w' g => begin_no A M k n t key adA capA adM capM _ w' (h.gr g) hm ht he
          have HE : Hid (begE A M k t n = begE A M k t n) := rfl
          clear h hm he hM hkb hab hh hE0
          generalize begE A M k t n = er at *
          generalize Led.pos (Led.ky M) key = p at *
          go_enter Try.func20, Try.ntmps20
          go_wp2_with fail
          refine (HM.out _ ((Gr.refl _).alloc.alloc.alloc)).mono ?_
          rintro e w1 ⟨rfl, hg1⟩
          have HB1 : Hid (TwoAt w1 w.heap.size (.slice adA A.length capA) (.slice adM M.length capM)) := (((TwoAt.new w _ _ _ _ rfl).gr (Gr.refl _).alloc).gr (Gr.refl _).alloc).gr hg1
          have HX1 : Hid (BoxAt w1 (w.heap.size + 1) (.int .i64 k) (.string t) (.int .i64 n)) := ((BoxAt.new _ _ _ _ _ (w.heap.size + 1) (by simp)).gr (Gr.refl _).alloc).gr hg1
          have HR1 : Hid (TwoAt w1 (w.heap.size + 1 + 1) (.slice none 0 0) (.slice none 0 0)) := (TwoAt.new _ _ _ _ (w.heap.size + 1 + 1) (by simp)).gr hg1
          have g1 : Gr w w1 := (by repeat (first | exact Gr.refl _ | refine Gr.alloc ?_ | refine Gr.drew ?_ | refine Gr.trans ?_ (by assumption)))
          clear hg1
          go_wp2_with fail
          refine (HK.out _).mono ?_
          rintro e w2 ⟨rfl, hw2⟩; obtain rfl := hw2.symm
          obtain ⟨a0, a1, a2, _, _, _, al⟩ := HX1.out
          go_wp2_with fail
          refine (HC.out _).mono ?_
          rintro e w2 ⟨rfl, hg2⟩
          have HB2 : Hid (TwoAt w2 w.heap.size (.slice adA A.length capA) (.slice adM M.length capM)) := HB1.out.gr hg2
          have HX2 : Hid (BoxAt w2 (w.heap.size + 1) (.int .i64 k) (.string t) (.int .i64 n)) := HX1.out.gr hg2
          have HR2 : Hid (TwoAt w2 (w.heap.size + 1 + 1) (.slice none 0 0) (.slice none 0 0)) := HR1.out.gr hg2
          have g2 : Gr w w2 := g1.trans hg2
          clear hg2 g1 a0 a1 a2 al HB1 HX1 HR1
          obtain ⟨b0, b1, _, _, bl⟩ := HB2.out
          go_wp2_with fail
          refine (HF.out _ g2).mono ?_
          rintro e w3 ⟨rfl, hg3⟩
          have HB3 : Hid (TwoAt w3 w.heap.size (.slice adA A.length capA) (.slice adM M.length capM)) := HB2.out.gr hg3
          have HX3 : Hid (BoxAt w3 (w.heap.size + 1) (.int .i64 k) (.string t) (.int .i64 n)) := HX2.out.gr hg3
          have HR3 : Hid (TwoAt w3 (w.heap.size + 1 + 1) (.slice none 0 0) (.slice none 0 0)) := HR2.out.gr hg3
          have g3 : Gr w w3 := g2.trans hg3
          clear hg3 g2 b0 b1 bl HB2 HX2 HR2
          obtain ⟨b0, b1, _, _, bl⟩ := HB3.out
          obtain ⟨a0, a1, a2, _, _, _, al⟩ := HX3.out
          go_wp2_with fail
          refine (HG.out _ g3).mono ?_
          rintro e w4 ⟨rfl, hg4⟩
          have g4 : Gr w w4 := g3.trans hg4
          obtain ⟨r0, r1, f0, f1, rl⟩ := HR3.out.gr hg4
          clear hg4 g3
          go_wp2
          exact bodyPost_ret (v := .tuple #[.agg #[.slice none 0 0, .slice none 0 0], .int .i64 er]) (by simp [results, Try.results20, go_sem, *]) rfl ⟨rfl, (g4.set _ (by simp; omega) _).set _ (by simp; omega) _⟩
        | true =>
          rw [hh] at HF
          obtain ⟨hp, _⟩ := Led.pos_mem hM.um ((Led.has_iff _ _).1 hh)
          rw [Led.ky_len] at hp
          have hE0 : doE A M key k t n = if sameB (atM M key) k t n = true then 0 else 72 := by unfold doE; rw [hm, hkb, hab, hh]; rfl
          have hns : sameB (atM M key) k t n = false := by
            cases hq : sameB (atM M key) k t n with
            | false => rfl
            | true => exact absurd (by rw [hE0, hq]; rfl) he
          have HE : Hid (doE A M key k t n = 72) := by show _ = _; rw [hE0, hns]; rfl
          obtain ⟨bm, offm, had, hbw, d0, d1, d2, d3, d4⟩ := (MksAt.at h.m (Led.pos (Led.ky M) key) hp)
          have hx : M[Led.pos (Led.ky M) key] = atM M key := by unfold atM; rw [List.getD_eq_getElem?_getD, List.getElem?_eq_getElem hp]; rfl
          rw [hx] at d0 d1 d2 d3 d4
          have hnot : ¬ ((atM M key).k = k ∧ (atM M key).t = t ∧ (atM M key).n = n ∧ (atM M key).st = 1) := fun hq => by rw [(same_iff _ _ _ _).2 hq] at hns; cases hns
          have hpi : (Led.pos (Led.ky M) key : Int) < (M.length : Int) := by omega
          clear he hm hM hkb hab hh hE0 hns hx h
          generalize atM M key = m at *
          generalize Led.pos (Led.ky M) key = p at *
          subst had
          obtain ⟨mk, mkk, mt, mn, ms⟩ := m
          simp only at d0 d1 d2 d3 d4 hnot
          by_cases h1 : mkk = k
          · subst h1
            by_cases h2 : mt = t
            · subst h2
              by_cases h3 : mn = n
              · subst h3
                have h4 : (ms == 1) = false := by
                  simp only [beq_eq_false_iff_ne, ne_eq]
                  exact fun e => hnot ⟨rfl, rfl, rfl, e⟩
                clear hnot
                go_enter Try.func20, Try.ntmps20
                go_wp2_with fail
                refine (HM.out _ ((Gr.refl _).alloc.alloc.alloc)).mono ?_
                rintro e w1 ⟨rfl, hg1⟩
                have HB1 : Hid (TwoAt w1 w.heap.size (.slice adA A.length capA) (.slice (some ⟨bm, offm, none⟩) M.length capM)) := (((TwoAt.new w _ _ _ _ rfl).gr (Gr.refl _).alloc).gr (Gr.refl _).alloc).gr hg1
                have HX1 : Hid (BoxAt w1 (w.heap.size + 1) (.int .i64 mkk) (.string mt) (.int .i64 mn)) := ((BoxAt.new _ _ _ _ _ (w.heap.size + 1) (by simp)).gr (Gr.refl _).alloc).gr hg1
                have HR1 : Hid (TwoAt w1 (w.heap.size + 1 + 1) (.slice none 0 0) (.slice none 0 0)) := (TwoAt.new _ _ _ _ (w.heap.size + 1 + 1) (by simp)).gr hg1
                have g1 : Gr w w1 := (by repeat (first | exact Gr.refl _ | refine Gr.alloc ?_ | refine Gr.drew ?_ | refine Gr.trans ?_ (by assumption)))
                clear hg1
                go_wp2_with fail
                refine (HK.out _).mono ?_
                rintro e w2 ⟨rfl, hw2⟩; obtain rfl := hw2.symm
                obtain ⟨a0, a1, a2, _, _, _, al⟩ := HX1.out
                go_wp2_with fail
                refine (HC.out _).mono ?_
                rintro e w2 ⟨rfl, hg2⟩
                have HB2 : Hid (TwoAt w2 w.heap.size (.slice adA A.length capA) (.slice (some ⟨bm, offm, none⟩) M.length capM)) := HB1.out.gr hg2
                have HX2 : Hid (BoxAt w2 (w.heap.size + 1) (.int .i64 mkk) (.string mt) (.int .i64 mn)) := HX1.out.gr hg2
                have HR2 : Hid (TwoAt w2 (w.heap.size + 1 + 1) (.slice none 0 0) (.slice none 0 0)) := HR1.out.gr hg2
                have g2 : Gr w w2 := g1.trans hg2
                clear hg2 g1 a0 a1 a2 al HB1 HX1 HR1
                obtain ⟨b0, b1, _, _, bl⟩ := HB2.out
                go_wp2_with fail
                refine (HF.out _ g2).mono ?_
                rintro e w3 ⟨rfl, hg3⟩
                have HB3 : Hid (TwoAt w3 w.heap.size (.slice adA A.length capA) (.slice (some ⟨bm, offm, none⟩) M.length capM)) := HB2.out.gr hg3
                have HX3 : Hid (BoxAt w3 (w.heap.size + 1) (.int .i64 mkk) (.string mt) (.int .i64 mn)) := HX2.out.gr hg3
                have HR3 : Hid (TwoAt w3 (w.heap.size + 1 + 1) (.slice none 0 0) (.slice none 0 0)) := HR2.out.gr hg3
                have g3 : Gr w w3 := g2.trans hg3
                clear hg3 g2 b0 b1 bl HB2 HX2 HR2
                obtain ⟨b0, b1, _, _, bl⟩ := HB3.out
                obtain ⟨a0, a1, a2, _, _, _, al⟩ := HX3.out
                have d0 := g3.keep d0
                have d1 := g3.keep d1
                have d2 := g3.keep d2
                have d3 := g3.keep d3
                have d4 := g3.keep d4
                have hbw3 : bm < w3.heap.size := Nat.lt_of_lt_of_le hbw g3.size
                obtain ⟨r0, r1, f0, f1, rl⟩ := HR3.out
                go_wp2
                exact bodyPost_ret (v := .tuple #[.agg #[.slice none 0 0, .slice none 0 0], .int .i64 72]) (by simp [results, Try.results20, go_sem, *]) rfl ⟨by rw [HE.out], ((g3.set _ (by simp; omega) _).set _ (by simp; omega) _).alloc⟩
              · have h4 : (mn == n) = false := by simpa using h3
                clear hnot
                go_enter Try.func20, Try.ntmps20
                go_wp2_with fail
                refine (HM.out _ ((Gr.refl _).alloc.alloc.alloc)).mono ?_
                rintro e w1 ⟨rfl, hg1⟩
                have HB1 : Hid (TwoAt w1 w.heap.size (.slice adA A.length capA) (.slice (some ⟨bm, offm, none⟩) M.length capM)) := (((TwoAt.new w _ _ _ _ rfl).gr (Gr.refl _).alloc).gr (Gr.refl _).alloc).gr hg1
                have HX1 : Hid (BoxAt w1 (w.heap.size + 1) (.int .i64 mkk) (.string mt) (.int .i64 n)) := ((BoxAt.new _ _ _ _ _ (w.heap.size + 1) (by simp)).gr (Gr.refl _).alloc).gr hg1
                have HR1 : Hid (TwoAt w1 (w.heap.size + 1 + 1) (.slice none 0 0) (.slice none 0 0)) := (TwoAt.new _ _ _ _ (w.heap.size + 1 + 1) (by simp)).gr hg1
                have g1 : Gr w w1 := (by repeat (first | exact Gr.refl _ | refine Gr.alloc ?_ | refine Gr.drew ?_ | refine Gr.trans ?_ (by assumption)))
                clear hg1
                go_wp2_with fail
                refine (HK.out _).mono ?_
                rintro e w2 ⟨rfl, hw2⟩; obtain rfl := hw2.symm
                obtain ⟨a0, a1, a2, _, _, _, al⟩ := HX1.out
                go_wp2_with fail
                refine (HC.out _).mono ?_
                rintro e w2 ⟨rfl, hg2⟩
                have HB2 : Hid (TwoAt w2 w.heap.size (.slice adA A.length capA) (.slice (some ⟨bm, offm, none⟩) M.length capM)) := HB1.out.gr hg2
                have HX2 : Hid (BoxAt w2 (w.heap.size + 1) (.int .i64 mkk) (.string mt) (.int .i64 n)) := HX1.out.gr hg2
                have HR2 : Hid (TwoAt w2 (w.heap.size + 1 + 1) (.slice none 0 0) (.slice none 0 0)) := HR1.out.gr hg2
                have g2 : Gr w w2 := g1.trans hg2
                clear hg2 g1 a0 a1 a2 al HB1 HX1 HR1
                obtain ⟨b0, b1, _, _, bl⟩ := HB2.out
                go_wp2_with fail
                refine (HF.out _ g2).mono ?_
                rintro e w3 ⟨rfl, hg3⟩
                have HB3 : Hid (TwoAt w3 w.heap.size (.slice adA A.length capA) (.slice (some ⟨bm, offm, none⟩) M.length capM)) := HB2.out.gr hg3
                have HX3 : Hid (BoxAt w3 (w.heap.size + 1) (.int .i64 mkk) (.string mt) (.int .i64 n)) := HX2.out.gr hg3
                have HR3 : Hid (TwoAt w3 (w.heap.size + 1 + 1) (.slice none 0 0) (.slice none 0 0)) := HR2.out.gr hg3
                have g3 : Gr w w3 := g2.trans hg3
                clear hg3 g2 b0 b1 bl HB2 HX2 HR2
                obtain ⟨b0, b1, _, _, bl⟩ := HB3.out
                obtain ⟨a0, a1, a2, _, _, _, al⟩ := HX3.out
                have d0 := g3.keep d0
                have d1 := g3.keep d1
                have d2 := g3.keep d2
                have d3 := g3.keep d3
                have d4 := g3.keep d4
                have hbw3 : bm < w3.heap.size := Nat.lt_of_lt_of_le hbw g3.size
                obtain ⟨r0, r1, f0, f1, rl⟩ := HR3.out
                go_wp2
                exact bodyPost_ret (v := .tuple #[.agg #[.slice none 0 0, .slice none 0 0], .int .i64 72]) (by simp [results, Try.results20, go_sem, *]) rfl ⟨by rw [HE.out], ((g3.set _ (by simp; omega) _).set _ (by simp; omega) _).alloc⟩
            · have h4 := neB h2
              clear hnot
              go_enter Try.func20, Try.ntmps20
              go_wp2_with fail
              refine (HM.out _ ((Gr.refl _).alloc.alloc.alloc)).mono ?_
              rintro e w1 ⟨rfl, hg1⟩
              have HB1 : Hid (TwoAt w1 w.heap.size (.slice adA A.length capA) (.slice (some ⟨bm, offm, none⟩) M.length capM)) := (((TwoAt.new w _ _ _ _ rfl).gr (Gr.refl _).alloc).gr (Gr.refl _).alloc).gr hg1
              have HX1 : Hid (BoxAt w1 (w.heap.size + 1) (.int .i64 mkk) (.string t) (.int .i64 n)) := ((BoxAt.new _ _ _ _ _ (w.heap.size + 1) (by simp)).gr (Gr.refl _).alloc).gr hg1
              have HR1 : Hid (TwoAt w1 (w.heap.size + 1 + 1) (.slice none 0 0) (.slice none 0 0)) := (TwoAt.new _ _ _ _ (w.heap.size + 1 + 1) (by simp)).gr hg1
              have g1 : Gr w w1 := (by repeat (first | exact Gr.refl _ | refine Gr.alloc ?_ | refine Gr.drew ?_ | refine Gr.trans ?_ (by assumption)))
              clear hg1
              go_wp2_with fail
              refine (HK.out _).mono ?_
              rintro e w2 ⟨rfl, hw2⟩; obtain rfl := hw2.symm
              obtain ⟨a0, a1, a2, _, _, _, al⟩ := HX1.out
              go_wp2_with fail
              refine (HC.out _).mono ?_
              rintro e w2 ⟨rfl, hg2⟩
              have HB2 : Hid (TwoAt w2 w.heap.size (.slice adA A.length capA) (.slice (some ⟨bm, offm, none⟩) M.length capM)) := HB1.out.gr hg2
              have HX2 : Hid (BoxAt w2 (w.heap.size + 1) (.int .i64 mkk) (.string t) (.int .i64 n)) := HX1.out.gr hg2
              have HR2 : Hid (TwoAt w2 (w.heap.size + 1 + 1) (.slice none 0 0) (.slice none 0 0)) := HR1.out.gr hg2
              have g2 : Gr w w2 := g1.trans hg2
              clear hg2 g1 a0 a1 a2 al HB1 HX1 HR1
              obtain ⟨b0, b1, _, _, bl⟩ := HB2.out
              go_wp2_with fail
              refine (HF.out _ g2).mono ?_
              rintro e w3 ⟨rfl, hg3⟩
              have HB3 : Hid (TwoAt w3 w.heap.size (.slice adA A.length capA) (.slice (some ⟨bm, offm, none⟩) M.length capM)) := HB2.out.gr hg3
              have HX3 : Hid (BoxAt w3 (w.heap.size + 1) (.int .i64 mkk) (.string t) (.int .i64 n)) := HX2.out.gr hg3
              have HR3 : Hid (TwoAt w3 (w.heap.size + 1 + 1) (.slice none 0 0) (.slice none 0 0)) := HR2.out.gr hg3
              have g3 : Gr w w3 := g2.trans hg3
              clear hg3 g2 b0 b1 bl HB2 HX2 HR2
              obtain ⟨b0, b1, _, _, bl⟩ := HB3.out
              obtain ⟨a0, a1, a2, _, _, _, al⟩ := HX3.out
              have d0 := g3.keep d0
              have d1 := g3.keep d1
              have d2 := g3.keep d2
              have d3 := g3.keep d3
              have d4 := g3.keep d4
              have hbw3 : bm < w3.heap.size := Nat.lt_of_lt_of_le hbw g3.size
              obtain ⟨r0, r1, f0, f1, rl⟩ := HR3.out
              go_wp2
              exact bodyPost_ret (v := .tuple #[.agg #[.slice none 0 0, .slice none 0 0], .int .i64 72]) (by simp [results, Try.results20, go_sem, *]) rfl ⟨by rw [HE.out], ((g3.set _ (by simp; omega) _).set _ (by simp; omega) _).alloc⟩
          · have h4 : (mkk == k) = false := by simpa using h1
            clear hnot
            go_enter Try.func20, Try.ntmps20
            go_wp2_with fail
            refine (HM.out _ ((Gr.refl _).alloc.alloc.alloc)).mono ?_
            rintro e w1 ⟨rfl, hg1⟩
            have HB1 : Hid (TwoAt w1 w.heap.size (.slice adA A.length capA) (.slice (some ⟨bm, offm, none⟩) M.length capM)) := (((TwoAt.new w _ _ _ _ rfl).gr (Gr.refl _).alloc).gr (Gr.refl _).alloc).gr hg1
            have HX1 : Hid (BoxAt w1 (w.heap.size + 1) (.int .i64 k) (.string t) (.int .i64 n)) := ((BoxAt.new _ _ _ _ _ (w.heap.size + 1) (by simp)).gr (Gr.refl _).alloc).gr hg1
            have HR1 : Hid (TwoAt w1 (w.heap.size + 1 + 1) (.slice none 0 0) (.slice none 0 0)) := (TwoAt.new _ _ _ _ (w.heap.size + 1 + 1) (by simp)).gr hg1
            have g1 : Gr w w1 := (by repeat (first | exact Gr.refl _ | refine Gr.alloc ?_ | refine Gr.drew ?_ | refine Gr.trans ?_ (by assumption)))
            clear hg1
            go_wp2_with fail
            refine (HK.out _).mono ?_
            rintro e w2 ⟨rfl, hw2⟩; obtain rfl := hw2.symm
            obtain ⟨a0, a1, a2, _, _, _, al⟩ := HX1.out
            go_wp2_with fail
            refine (HC.out _).mono ?_
            rintro e w2 ⟨rfl, hg2⟩
            have HB2 : Hid (TwoAt w2 w.heap.size (.slice adA A.length capA) (.slice (some ⟨bm, offm, none⟩) M.length capM)) := HB1.out.gr hg2
            have HX2 : Hid (BoxAt w2 (w.heap.size + 1) (.int .i64 k) (.string t) (.int .i64 n)) := HX1.out.gr hg2
            have HR2 : Hid (TwoAt w2 (w.heap.size + 1 + 1) (.slice none 0 0) (.slice none 0 0)) := HR1.out.gr hg2
            have g2 : Gr w w2 := g1.trans hg2
            clear hg2 g1 a0 a1 a2 al HB1 HX1 HR1
            obtain ⟨b0, b1, _, _, bl⟩ := HB2.out
            go_wp2_with fail
            refine (HF.out _ g2).mono ?_
            rintro e w3 ⟨rfl, hg3⟩
            have HB3 : Hid (TwoAt w3 w.heap.size (.slice adA A.length capA) (.slice (some ⟨bm, offm, none⟩) M.length capM)) := HB2.out.gr hg3
            have HX3 : Hid (BoxAt w3 (w.heap.size + 1) (.int .i64 k) (.string t) (.int .i64 n)) := HX2.out.gr hg3
            have HR3 : Hid (TwoAt w3 (w.heap.size + 1 + 1) (.slice none 0 0) (.slice none 0 0)) := HR2.out.gr hg3
            have g3 : Gr w w3 := g2.trans hg3
            clear hg3 g2 b0 b1 bl HB2 HX2 HR2
            obtain ⟨b0, b1, _, _, bl⟩ := HB3.out
            obtain ⟨a0, a1, a2, _, _, _, al⟩ := HX3.out
            have d0 := g3.keep d0
            have d1 := g3.keep d1
            have d2 := g3.keep d2
            have d3 := g3.keep d3
            have d4 := g3.keep d4
            have hbw3 : bm < w3.heap.size := Nat.lt_of_lt_of_le hbw g3.size
            obtain ⟨r0, r1, f0, f1, rl⟩ := HR3.out
            go_wp2
            exact bodyPost_ret (v := .tuple #[.agg #[.slice none 0 0, .slice none 0 0], .int .i64 72]) (by simp [results, Try.results20, go_sem, *]) rfl ⟨by rw [HE.out], ((g3.set _ (by simp; omega) _).set _ (by simp; omega) _).alloc⟩
set_option maxHeartbeats 4000000 in
set_option maxRecDepth 100000 in
theorem do_yes (A : List Acc) (M : List Mk) (key : ByteArray) (k n : Int) (t : ByteArray) (adA : Option Addr) (capA : Nat) (adM : Option Addr) (capM : Nat) (w : World) (h : LedAt w adA adM A M) (hs : key.size ≤ 9223372036854775807) (ht : t.size ≤ 9223372036854775807) (he : doE A M key k t n = 0) :
    Calls Try.prog 20 #[.agg #[.slice adA A.length capA, .slice adM M.length capM], .string key, .agg #[.int .i64 k, .string t, .int .i64 n]] w fun e w' => ∃ v1 v2, e = .returned (.tuple #[.agg #[v1, v2], .int .i64 0]) ∧ w'.ownsRow w.heap.size 31 7 v1 (doA A M key k t n).length ((doA A M key k t n).flatMap accC) ∧ w'.ownsRow w.heap.size 64 5 v2 (doM M key k t n).length ((doM M key k t n).flatMap mkC) ∧ Gr w w' := by
  have hall : Led.mayB A M = true ∧ Led.keyB key = true ∧ Act.actB k t n = true ∧ ((Led.hasB (Led.ky M) key = true ∧ sameB (atM M key) k t n = true) ∨ (Led.hasB (Led.ky M) key = false ∧ begE A M k t n = 0)) := by
    unfold doE at he
    by_cases h1 : (Led.mayB A M && Led.keyB key) = true
    · rw [if_pos h1] at he
      rw [Bool.and_eq_true] at h1
      cases hab : Act.actB k t n with
      | false => rw [hab] at he; cases he
      | true =>
        rw [hab, if_pos rfl] at he
        cases hh : Led.hasB (Led.ky M) key with
        | true =>
          rw [hh, if_pos rfl] at he
          cases hq : sameB (atM M key) k t n with
          | false => rw [hq] at he; cases he
          | true => exact ⟨h1.1, h1.2, rfl, Or.inl ⟨rfl, rfl⟩⟩
        | false =>
          rw [hh, if_neg (by decide)] at he
          exact ⟨h1.1, h1.2, rfl, Or.inr ⟨rfl, he⟩⟩
    · rw [if_neg h1] at he; cases he
  obtain ⟨hm, hkb, hab, hor⟩ := hall
  have hM := (Led.may_iff A M).1 hm
  have HM : Hid (∀ w', Gr w w' → Calls Try.prog 14 #[.agg #[.slice adA A.length capA, .slice adM M.length capM]] w' fun e w2 => e = .returned (.int .i64 0) ∧ Gr w' w2) := fun w' g => by have := (h.gr g).may capA capM; rw [mayL_yes hm] at this; exact this
  have HK : Hid (∀ w', Calls Try.prog 55 #[.string key] w' fun e w2 => e = .returned (.bool true) ∧ w2 = w') := fun w' => by have := isKey_any key w' hs; rw [hkb] at this; exact this
  have HC : Hid (∀ w', Calls Try.prog 56 #[.agg #[.int .i64 k, .string t, .int .i64 n]] w' fun e w2 => e = .returned (.int .i64 0) ∧ Gr w' w2) := fun w' => by have := actCheck_any k n t w' ht; rw [Act.chk_yes hab] at this; exact this
  have HF : Hid (∀ w', Gr w w' → Calls Try.prog 47 #[.slice adM M.length capM, .string key] w' fun e w2 => e = .returned (.tuple #[.int .i64 (Led.pos (Led.ky M) key : Nat), .bool (Led.hasB (Led.ky M) key)]) ∧ Gr w' w2) := fun w' g => findM_any M key adM capM w' (h.m.gr g) hM.um (by have := hM.lm; omega)
  have hks : key.size ≤ 1000 := by
    unfold Led.keyB at hkb
    simp only [Bool.and_eq_true, decide_eq_true_eq] at hkb
    omega
  rcases hor with ⟨hh, hq⟩ | ⟨hh, hb⟩
  · have HCP : Hid (∀ w', Gr w w' → Calls Try.prog 51 #[.agg #[.slice adA A.length capA, .slice adM M.length capM]] w' fun e w2 => ∃ a1 c1 a2 c2, e = .returned (.agg #[.slice a1 A.length c1, .slice a2 M.length c2]) ∧ w2.ownsRow w'.heap.size 31 7 (.slice a1 A.length c1) A.length (A.flatMap accC) ∧ w2.ownsRow w'.heap.size 64 5 (.slice a2 M.length c2) M.length (M.flatMap mkC) ∧ Gr w' w2) := fun w' g =>
      (copied_any A M adA capA adM capM w' (h.a.gr g) (h.m.gr g) (by have := hM.la; omega) (by have := hM.lm; omega) (acc_small hm) (mk_small hm)).mono (by
        rintro e w2 ⟨v1, v2, rfl, o1, o2, g2⟩
        obtain ⟨a1, c1, rfl, _⟩ := own_row o1
        obtain ⟨a2, c2, rfl, _⟩ := own_row o2
        exact ⟨a1, c1, a2, c2, rfl, o1, o2, g2⟩)
    rw [hh] at HF
    have hA : doA A M key k t n = A := by unfold doA; rw [hh]; rfl
    have hMM : doM M key k t n = M := by unfold doM; rw [hh]; rfl
    rw [hA, hMM]
    obtain ⟨hp, _⟩ := Led.pos_mem hM.um ((Led.has_iff _ _).1 hh)
    rw [Led.ky_len] at hp
    obtain ⟨bm, offm, had, hbw, d0, d1, d2, d3, d4⟩ := (MksAt.at h.m (Led.pos (Led.ky M) key) hp)
    have hx : M[Led.pos (Led.ky M) key] = atM M key := by unfold atM; rw [List.getD_eq_getElem?_getD, List.getElem?_eq_getElem hp]; rfl
    rw [hx] at d0 d1 d2 d3 d4
    obtain ⟨e1, e2, e3, e4⟩ := (same_iff _ _ _ _).1 hq
    rw [e1] at d1
    rw [e2] at d2
    rw [e3] at d3
    rw [e4] at d4
    have hpi : (Led.pos (Led.ky M) key : Int) < (M.length : Int) := by omega
    clear he hm hM hkb hab hh hx h hA hMM e1 e2 e3 e4 hq
    generalize (atM M key).key = mkey at *
    generalize Led.pos (Led.ky M) key = p at *
    subst had
    go_enter Try.func20, Try.ntmps20
    go_wp2_with fail
    refine (HM.out _ ((Gr.refl _).alloc.alloc.alloc)).mono ?_
    rintro e w1 ⟨rfl, hg1⟩
    have HB1 : Hid (TwoAt w1 w.heap.size (.slice adA A.length capA) (.slice (some ⟨bm, offm, none⟩) M.length capM)) := (((TwoAt.new w _ _ _ _ rfl).gr (Gr.refl _).alloc).gr (Gr.refl _).alloc).gr hg1
    have HX1 : Hid (BoxAt w1 (w.heap.size + 1) (.int .i64 k) (.string t) (.int .i64 n)) := ((BoxAt.new _ _ _ _ _ (w.heap.size + 1) (by simp)).gr (Gr.refl _).alloc).gr hg1
    have HR1 : Hid (TwoAt w1 (w.heap.size + 1 + 1) (.slice none 0 0) (.slice none 0 0)) := (TwoAt.new _ _ _ _ (w.heap.size + 1 + 1) (by simp)).gr hg1
    have g1 : Gr w w1 := (by repeat (first | exact Gr.refl _ | refine Gr.alloc ?_ | refine Gr.drew ?_ | refine Gr.trans ?_ (by assumption)))
    clear hg1
    go_wp2_with fail
    refine (HK.out _).mono ?_
    rintro e w2 ⟨rfl, hw2⟩; obtain rfl := hw2.symm
    obtain ⟨a0, a1, a2, _, _, _, al⟩ := HX1.out
    go_wp2_with fail
    refine (HC.out _).mono ?_
    rintro e w2 ⟨rfl, hg2⟩
    have HB2 : Hid (TwoAt w2 w.heap.size (.slice adA A.length capA) (.slice (some ⟨bm, offm, none⟩) M.length capM)) := HB1.out.gr hg2
    have HX2 : Hid (BoxAt w2 (w.heap.size + 1) (.int .i64 k) (.string t) (.int .i64 n)) := HX1.out.gr hg2
    have HR2 : Hid (TwoAt w2 (w.heap.size + 1 + 1) (.slice none 0 0) (.slice none 0 0)) := HR1.out.gr hg2
    have g2 : Gr w w2 := g1.trans hg2
    clear hg2 g1 a0 a1 a2 al HB1 HX1 HR1
    obtain ⟨b0, b1, _, _, bl⟩ := HB2.out
    go_wp2_with fail
    refine (HF.out _ g2).mono ?_
    rintro e w3 ⟨rfl, hg3⟩
    have HB3 : Hid (TwoAt w3 w.heap.size (.slice adA A.length capA) (.slice (some ⟨bm, offm, none⟩) M.length capM)) := HB2.out.gr hg3
    have HX3 : Hid (BoxAt w3 (w.heap.size + 1) (.int .i64 k) (.string t) (.int .i64 n)) := HX2.out.gr hg3
    have HR3 : Hid (TwoAt w3 (w.heap.size + 1 + 1) (.slice none 0 0) (.slice none 0 0)) := HR2.out.gr hg3
    have g3 : Gr w w3 := g2.trans hg3
    clear hg3 g2 b0 b1 bl HB2 HX2 HR2
    obtain ⟨b0, b1, _, _, bl⟩ := HB3.out
    obtain ⟨a0, a1, a2, _, _, _, al⟩ := HX3.out
    have d0 := g3.keep d0
    have d1 := g3.keep d1
    have d2 := g3.keep d2
    have d3 := g3.keep d3
    have d4 := g3.keep d4
    have hbw3 : bm < w3.heap.size := Nat.lt_of_lt_of_le hbw g3.size
    go_wp2_with fail
    refine (HCP.out _ g3.alloc).mono ?_
    rintro e w4 ⟨x1, y1, x2, y2, rfl, ho1, ho2, hg4⟩
    have HR4 : Hid (TwoAt w4 (w.heap.size + 1 + 1) (.slice none 0 0) (.slice none 0 0)) := (HR3.out.gr (Gr.refl _).alloc).gr hg4
    have hr3 : w.heap.size + 1 + 1 < w3.heap.size := HR3.out.lt
    have g4 : Gr w w4 := g3.alloc.trans hg4
    have HFin : Hid (∀ W, W = ((w4.setCell ⟨w.heap.size + 1 + 1, 0, none⟩ (.slice x1 A.length y1)).setCell ⟨w.heap.size + 1 + 1, 1, none⟩ (.slice x2 M.length y2)) → W.ownsRow w.heap.size 31 7 (.slice x1 A.length y1) A.length (A.flatMap accC) ∧ W.ownsRow w.heap.size 64 5 (.slice x2 M.length y2) M.length (M.flatMap mkC) ∧ Gr w W) := by
      intro W hW
      subst hW
      have m1 : (Value.slice x1 A.length y1).ownBlock ≠ some (w.heap.size + 1 + 1) := fun h => by have := (ho1.lt _ h).1; simp at this; omega
      have m2 : (Value.slice x2 M.length y2).ownBlock ≠ some (w.heap.size + 1 + 1) := fun h => by have := (ho2.lt _ h).1; simp at this; omega
      exact ⟨own_far (own_far (own_low ho1 (by simp; omega)) _ _ m1) _ _ m1, own_far (own_far (own_low ho2 (by simp; omega)) _ _ m2) _ _ m2, (g4.set _ (by simp; omega) _).set _ (by simp; omega) _⟩
    obtain ⟨r0, r1, f0, f1, rl⟩ := HR4.out
    clear ho1 ho2 hg4 d0 d1 d2 d3 d4 b0 b1 bl a0 a1 a2 al
    go_wp2
    exact bodyPost_ret (v := .tuple #[.agg #[.slice x1 A.length y1, .slice x2 M.length y2], .int .i64 0]) (by simp [results, Try.results20, go_sem, *]) rfl ⟨_, _, rfl, HFin.out _ rfl⟩
  · rw [hh] at HF
    have hA : doA A M key k t n = A.set (Led.pos (Led.nm A) t) (mvA Act.chDo (atA A t) k n) := by unfold doA; rw [hh]; rfl
    have hMM : doM M key k t n = insK M ⟨key, k, t, n, 1⟩ := by unfold doM; rw [hh]; rfl
    have hAl : (doA A M key k t n).length = A.length := by rw [hA]; exact List.length_set
    have hMl : (doM M key k t n).length = M.length + 1 := by rw [hMM]; exact insK_len _ _
    have HG : Hid (∀ w', Gr w w' → Calls Try.prog 57 #[.agg #[.slice adA A.length capA, .slice adM M.length capM], .int .i64 (Led.pos (Led.ky M) key : Nat), .string key, .agg #[.int .i64 k, .string t, .int .i64 n]] w' fun e w2 => ∃ a1 c1 a2 c2, e = .returned (.tuple #[.agg #[.slice a1 (doA A M key k t n).length c1, .slice a2 (doM M key k t n).length c2], .int .i64 0]) ∧ w2.ownsRow w'.heap.size 31 7 (.slice a1 (doA A M key k t n).length c1) (doA A M key k t n).length ((doA A M key k t n).flatMap accC) ∧ w2.ownsRow w'.heap.size 64 5 (.slice a2 (doM M key k t n).length c2) (doM M key k t n).length ((doM M key k t n).flatMap mkC) ∧ Gr w' w2) := fun w' g =>
      (begin_yes A M k n t key adA capA adM capM w' (h.gr g) hm ht hks hb).mono (by
        rintro e w2 ⟨v1, v2, rfl, o1, o2, g2⟩
        rw [← hA, ← hAl] at o1
        rw [← hMM, ← hMl] at o2
        obtain ⟨a1, c1, rfl, _⟩ := own_row o1
        obtain ⟨a2, c2, rfl, _⟩ := own_row o2
        exact ⟨a1, c1, a2, c2, rfl, o1, o2, g2⟩)
    clear he hm hM hkb hab hh h hA hMM hAl hMl hb
    generalize (doA A M key k t n).flatMap accC = FA at *
    generalize (doM M key k t n).flatMap mkC = FM at *
    generalize (doA A M key k t n).length = LA at *
    generalize (doM M key k t n).length = LM at *
    generalize Led.pos (Led.ky M) key = p at *
    go_enter Try.func20, Try.ntmps20
    go_wp2_with fail
    refine (HM.out _ ((Gr.refl _).alloc.alloc.alloc)).mono ?_
    rintro e w1 ⟨rfl, hg1⟩
    have HB1 : Hid (TwoAt w1 w.heap.size (.slice adA A.length capA) (.slice adM M.length capM)) := (((TwoAt.new w _ _ _ _ rfl).gr (Gr.refl _).alloc).gr (Gr.refl _).alloc).gr hg1
    have HX1 : Hid (BoxAt w1 (w.heap.size + 1) (.int .i64 k) (.string t) (.int .i64 n)) := ((BoxAt.new _ _ _ _ _ (w.heap.size + 1) (by simp)).gr (Gr.refl _).alloc).gr hg1
    have HR1 : Hid (TwoAt w1 (w.heap.size + 1 + 1) (.slice none 0 0) (.slice none 0 0)) := (TwoAt.new _ _ _ _ (w.heap.size + 1 + 1) (by simp)).gr hg1
    have g1 : Gr w w1 := (by repeat (first | exact Gr.refl _ | refine Gr.alloc ?_ | refine Gr.drew ?_ | refine Gr.trans ?_ (by assumption)))
    clear hg1
    go_wp2_with fail
    refine (HK.out _).mono ?_
    rintro e w2 ⟨rfl, hw2⟩; obtain rfl := hw2.symm
    obtain ⟨a0, a1, a2, _, _, _, al⟩ := HX1.out
    go_wp2_with fail
    refine (HC.out _).mono ?_
    rintro e w2 ⟨rfl, hg2⟩
    have HB2 : Hid (TwoAt w2 w.heap.size (.slice adA A.length capA) (.slice adM M.length capM)) := HB1.out.gr hg2
    have HX2 : Hid (BoxAt w2 (w.heap.size + 1) (.int .i64 k) (.string t) (.int .i64 n)) := HX1.out.gr hg2
    have HR2 : Hid (TwoAt w2 (w.heap.size + 1 + 1) (.slice none 0 0) (.slice none 0 0)) := HR1.out.gr hg2
    have g2 : Gr w w2 := g1.trans hg2
    clear hg2 g1 a0 a1 a2 al HB1 HX1 HR1
    obtain ⟨b0, b1, _, _, bl⟩ := HB2.out
    go_wp2_with fail
    refine (HF.out _ g2).mono ?_
    rintro e w3 ⟨rfl, hg3⟩
    have HB3 : Hid (TwoAt w3 w.heap.size (.slice adA A.length capA) (.slice adM M.length capM)) := HB2.out.gr hg3
    have HX3 : Hid (BoxAt w3 (w.heap.size + 1) (.int .i64 k) (.string t) (.int .i64 n)) := HX2.out.gr hg3
    have HR3 : Hid (TwoAt w3 (w.heap.size + 1 + 1) (.slice none 0 0) (.slice none 0 0)) := HR2.out.gr hg3
    have g3 : Gr w w3 := g2.trans hg3
    clear hg3 g2 b0 b1 bl HB2 HX2 HR2
    obtain ⟨b0, b1, _, _, bl⟩ := HB3.out
    obtain ⟨a0, a1, a2, _, _, _, al⟩ := HX3.out
    go_wp2_with fail
    refine (HG.out _ g3).mono ?_
    rintro e w4 ⟨x1, y1, x2, y2, rfl, ho1, ho2, hg4⟩
    have HR4 : Hid (TwoAt w4 (w.heap.size + 1 + 1) (.slice none 0 0) (.slice none 0 0)) := HR3.out.gr hg4
    have hr3 : w.heap.size + 1 + 1 < w3.heap.size := HR3.out.lt
    have g4 : Gr w w4 := g3.trans hg4
    have HFin : Hid (∀ W, W = ((w4.setCell ⟨w.heap.size + 1 + 1, 0, none⟩ (.slice x1 LA y1)).setCell ⟨w.heap.size + 1 + 1, 1, none⟩ (.slice x2 LM y2)) → W.ownsRow w.heap.size 31 7 (.slice x1 LA y1) LA FA ∧ W.ownsRow w.heap.size 64 5 (.slice x2 LM y2) LM FM ∧ Gr w W) := by
      intro W hW
      subst hW
      have m1 : (Value.slice x1 LA y1).ownBlock ≠ some (w.heap.size + 1 + 1) := fun h => by have := (ho1.lt _ h).1; omega
      have m2 : (Value.slice x2 LM y2).ownBlock ≠ some (w.heap.size + 1 + 1) := fun h => by have := (ho2.lt _ h).1; omega
      exact ⟨own_far (own_far (own_low ho1 (by omega)) _ _ m1) _ _ m1, own_far (own_far (own_low ho2 (by omega)) _ _ m2) _ _ m2, (g4.set _ (by simp; omega) _).set _ (by simp; omega) _⟩
    obtain ⟨r0, r1, f0, f1, rl⟩ := HR4.out
    clear ho1 ho2 hg4 b0 b1 bl a0 a1 a2 al
    go_wp2
    exact bodyPost_ret (v := .tuple #[.agg #[.slice x1 LA y1, .slice x2 LM y2], .int .i64 0]) (by simp [results, Try.results20, go_sem, *]) rfl ⟨_, _, rfl, HFin.out _ rfl⟩
end Go.Proofs.Ytgidkmipecfjhaa
namespace Go.Proofs.Ytgidkmipecfjhaa
open Go.RowKit
open Led (Acc Mk)
def firstN (L : List ByteArray) (s : ByteArray) : Nat := (L.takeWhile (fun x => !decide (x = s))).length
def firstI (L : List ByteArray) (s : ByteArray) : Int := if Led.hasB L s = true then (firstN L s : Int) else -1
theorem first_at : ∀ (L : List ByteArray) (s : ByteArray) (k : Nat) (h : k < L.length), L[k] = s → (∀ j (hj : j < L.length), j < k → L[j] ≠ s) → firstN L s = k
  | [], _, _, h, _, _ => by simp at h
  | x :: t, s, 0, _, e, _ => by
    unfold firstN
    simp at e
    simp [e]
  | x :: t, s, k + 1, h, e, hb => by
    have h0 := hb 0 (by simp) (by omega)
    simp at h0 e
    have := first_at t s k (by simpa using h) e (fun j hj hk => by have := hb (j + 1) (by simpa using hj) (by omega); simpa using this)
    unfold firstN at this ⊢
    simp [h0, this]
theorem first_yes {L : List ByteArray} {s : ByteArray} {k : Nat} (h : k < L.length) (e : L[k] = s) (hb : ∀ j (hj : j < L.length), j < k → L[j] ≠ s) : firstI L s = k := by
  unfold firstI
  rw [if_pos ((Led.has_iff L s).2 (by rw [← e]; exact List.getElem_mem h)), first_at L s k h e hb]
theorem first_no {L : List ByteArray} {s : ByteArray} (hb : ∀ j (hj : j < L.length), L[j] ≠ s) : firstI L s = -1 := by
  unfold firstI
  rw [if_neg]
  intro h
  obtain ⟨j, hj, e⟩ := List.mem_iff_getElem.1 ((Led.has_iff L s).1 h)
  exact hb j hj e
theorem first_pos {L : List ByteArray} {s : ByteArray} (hu : Led.upB L = true) (hm : Led.hasB L s = true) : firstI L s = (Led.pos L s : Nat) := by
  obtain ⟨h, e⟩ := Led.pos_mem hu ((Led.has_iff L s).1 hm)
  exact first_yes h e fun j hj hk e2 => by have := Led.up_one hu hj h (e2.trans e.symm); omega
theorem first_neg {L : List ByteArray} {s : ByteArray} (hm : Led.hasB L s = false) : firstI L s = -1 := by unfold firstI; rw [hm]; rfl
theorem first_sign (L : List ByteArray) (s : ByteArray) : (firstI L s < 0 ↔ Led.hasB L s = false) := by
  cases h : Led.hasB L s with
  | true => unfold firstI; rw [h, if_pos rfl]; constructor
            · intro h2; omega
            · intro h2; cases h2
  | false => rw [first_neg h]; simp
theorem refKey_any (s : ByteArray) (w : World) (hs : s.size ≤ 9223372036854775807) : Calls Try.prog 43 #[.string s] w fun e w' => e = .returned (.bool (Led.keyB s)) ∧ w' = w := by
  unfold Led.keyB
  by_cases h1 : 0 < s.size
  · have h3 : (1 : Int) ≤ (s.size : Int) := by omega
    rw [decide_eq_true h1]
    by_cases h2 : s.size ≤ 100
    · have h4 : (s.size : Int) ≤ 100 := by omega
      rw [decide_eq_true h2]
      clear h1 h2
      go_enter Try.func43, Try.ntmps43
      go_wp2
      go_ret
      exact ⟨rfl, rfl⟩
    · have h4 : ¬ (s.size : Int) ≤ 100 := by omega
      rw [decide_eq_false h2]
      clear h1 h2
      go_enter Try.func43, Try.ntmps43
      go_wp2
      go_ret
      exact ⟨rfl, rfl⟩
  · have h3 : ¬ (1 : Int) ≤ (s.size : Int) := by omega
    rw [decide_eq_false h1, Bool.false_and]
    clear h1
    go_enter Try.func43, Try.ntmps43
    go_wp2
    go_ret
    exact ⟨rfl, rfl⟩
set_option maxHeartbeats 2000000 in
set_option maxRecDepth 100000 in
theorem refAcc_any (A : List Acc) (M : List Mk) (s : ByteArray) (adA : Option Addr) (capA : Nat) (adM : Option Addr) (capM : Nat) (w : World) (h : AccsAt w adA A) (hn : A.length ≤ 9223372036854775807) :
    Calls Try.prog 32 #[.agg #[.slice adA A.length capA, .slice adM M.length capM], .string s] w fun e w' => e = .returned (.int .i64 (firstI (Led.nm A) s)) ∧ Gr w w' := by
  have H : Hid (AccsAt w adA A) := h
  clear h
  go_enter Try.func32, Try.ntmps32
  go_wp2
  go_loopw [5] (fun ix wr => ∃ k : Nat, k ≤ A.length ∧ ix = .int .i64 k ∧ TwoAt wr w.heap.size (.slice adA A.length capA) (.slice adM M.length capM) ∧ Gr w wr ∧ ∀ j (h : j < (Led.nm A).length), j < k → (Led.nm A)[j] ≠ s)
      (fun ix _ => A.length - (intOf ix).toNat)
  case atStart => exact ⟨0, by omega, rfl, TwoAt.new w _ _ _ _ rfl, (Gr.refl _).alloc, fun j _ hj => absurd hj (by omega)⟩
  case round =>
    obtain ⟨k, hk, rfl, hbx, hg, hall⟩ := hrel
    have HB : Hid (TwoAt wr w.heap.size (.slice adA A.length capA) (.slice adM M.length capM)) := hbx
    have HG : Hid (Gr w wr) := hg
    have HL : Hid (∀ j (h : j < (Led.nm A).length), j < k → (Led.nm A)[j] ≠ s) := hall
    obtain ⟨b0, b1, _, _, bl⟩ := hbx
    clear hg hall
    by_cases hlt : k < A.length
    · obtain ⟨b, off, rfl, hb, c0, c1, c2, c3, c4, c5, c6⟩ := AccsAt.at H.out k hlt
      have hki : (k : Int) < (A.length : Int) := by omega
      have e0 := HG.out.keep c0
      have hbw : b < wr.heap.size := Nat.lt_of_lt_of_le hb HG.out.size
      have hkn : k < (Led.nm A).length := by rw [Led.nm_len]; exact hlt
      have hnk : (Led.nm A)[k] = A[k].s := Led.nm_get A k hlt
      generalize A[k].s = x at e0 hnk
      clear c0 c1 c2 c3 c4 c5 c6 hb
      by_cases he : x = s
      · subst he
        have HR : Hid (firstI (Led.nm A) x = k) := first_yes hkn hnk HL.out
        clear hnk
        go_wp2
        go_ret
        exact ⟨by rw [HR.out]; rfl, HG.out⟩
      · have hne := neB he
        have HN : Hid (∀ j (h : j < (Led.nm A).length), j < k + 1 → (Led.nm A)[j] ≠ s) := fun j h1 h2 => by
          rcases Nat.lt_or_ge j k with h3 | h3
          · exact HL.out j h1 h3
          · have : j = k := by omega
            subst this; rw [hnk]; exact he
        clear hnk he
        go_wp2
        go_roundw
        case rel => exact ⟨k + 1, by omega, by go_num, HB.out, HG.out, HN.out⟩
        case measure => simp [intOf]; omega
    · have hki : ¬ (k : Int) < (A.length : Int) := by omega
      have HR : Hid (firstI (Led.nm A) s = -1) := first_no fun j hj => HL.out j hj (by rw [Led.nm_len] at hj; omega)
      go_wp2
      go_ret
      exact ⟨by rw [HR.out]; rfl, HG.out⟩
set_option maxHeartbeats 2000000 in
set_option maxRecDepth 100000 in
theorem refMk_any (A : List Acc) (M : List Mk) (s : ByteArray) (adA : Option Addr) (capA : Nat) (adM : Option Addr) (capM : Nat) (w : World) (h : MksAt w adM M) (hn : M.length ≤ 9223372036854775807) :
    Calls Try.prog 48 #[.agg #[.slice adA A.length capA, .slice adM M.length capM], .string s] w fun e w' => e = .returned (.int .i64 (firstI (Led.ky M) s)) ∧ Gr w w' := by
  have H : Hid (MksAt w adM M) := h
  clear h
  go_enter Try.func48, Try.ntmps48
  go_wp2
  go_loopw [5] (fun ix wr => ∃ k : Nat, k ≤ M.length ∧ ix = .int .i64 k ∧ TwoAt wr w.heap.size (.slice adA A.length capA) (.slice adM M.length capM) ∧ Gr w wr ∧ ∀ j (h : j < (Led.ky M).length), j < k → (Led.ky M)[j] ≠ s)
      (fun ix _ => M.length - (intOf ix).toNat)
  case atStart => exact ⟨0, by omega, rfl, TwoAt.new w _ _ _ _ rfl, (Gr.refl _).alloc, fun j _ hj => absurd hj (by omega)⟩
  case round =>
    obtain ⟨k, hk, rfl, hbx, hg, hall⟩ := hrel
    have HB : Hid (TwoAt wr w.heap.size (.slice adA A.length capA) (.slice adM M.length capM)) := hbx
    have HG : Hid (Gr w wr) := hg
    have HL : Hid (∀ j (h : j < (Led.ky M).length), j < k → (Led.ky M)[j] ≠ s) := hall
    obtain ⟨b0, b1, _, _, bl⟩ := hbx
    clear hg hall
    by_cases hlt : k < M.length
    · obtain ⟨b, off, rfl, hb, c0, c1, c2, c3, c4⟩ := MksAt.at H.out k hlt
      have hki : (k : Int) < (M.length : Int) := by omega
      have e0 := HG.out.keep c0
      have hbw : b < wr.heap.size := Nat.lt_of_lt_of_le hb HG.out.size
      have hkn : k < (Led.ky M).length := by rw [Led.ky_len]; exact hlt
      have hnk : (Led.ky M)[k] = M[k].key := Led.ky_get M k hlt
      generalize M[k].key = x at e0 hnk
      clear c0 c1 c2 c3 c4 hb
      by_cases he : x = s
      · subst he
        have HR : Hid (firstI (Led.ky M) x = k) := first_yes hkn hnk HL.out
        clear hnk
        go_wp2
        go_ret
        exact ⟨by rw [HR.out]; rfl, HG.out⟩
      · have hne := neB he
        have HN : Hid (∀ j (h : j < (Led.ky M).length), j < k + 1 → (Led.ky M)[j] ≠ s) := fun j h1 h2 => by
          rcases Nat.lt_or_ge j k with h3 | h3
          · exact HL.out j h1 h3
          · have : j = k := by omega
            subst this; rw [hnk]; exact he
        clear hnk he
        go_wp2
        go_roundw
        case rel => exact ⟨k + 1, by omega, by go_num, HB.out, HG.out, HN.out⟩
        case measure => simp [intOf]; omega
    · have hki : ¬ (k : Int) < (M.length : Int) := by omega
      have HR : Hid (firstI (Led.ky M) s = -1) := first_no fun j hj => HL.out j hj (by rw [Led.ky_len] at hj; omega)
      go_wp2
      go_ret
      exact ⟨by rw [HR.out]; rfl, HG.out⟩
end Go.Proofs.Ytgidkmipecfjhaa
