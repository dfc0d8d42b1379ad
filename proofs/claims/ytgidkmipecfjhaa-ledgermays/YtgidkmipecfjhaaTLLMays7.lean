/- What the proof is made of, part 7. -/
import Derived.Test.YtgidkmipecfjhaaTLLMays6
import Derived.BigQuiet
import Derived.BigRegion
namespace Go.Proofs.Ytgidkmipecfjhaa
open Go.RowKit
theorem wrap_in {n : Int} (h0 : -9223372036854775808 ≤ n) (h1 : n ≤ 9223372036854775807) : wrap64 n = n := by unfold wrap64; omega
theorem Gr.drewN {a b : World} (h : Gr a b) (n : Nat) : Gr a (b.drewN n) := by
  induction n with
  | zero => exact h
  | succ n ih => exact ih.drew
set_option maxHeartbeats 400000 in
theorem clone_any (s : ByteArray) (w : World) (hs : s.size ≤ 140737488355328) : Calls Try.prog 31 #[.string s] w fun e w' => e = .returned (.string s) ∧ Gr w w' := by
  have HC : Hid (∀ w : World, Calls Try.prog 67 #[.string s] w fun e w' => e = .returned (.string s) ∧ Below w.heap.size w w') := fun w => Try.stringslite_Clone s w (by omega)
  go_enter Try.func31, Try.ntmps31
  go_wp2_with fail
  refine (HC.out _).mono ?_
  rintro e w1 ⟨rfl, hb⟩
  go_wp2
  go_ret
  exact ⟨rfl, ⟨hb⟩⟩
set_option maxHeartbeats 1000000 in
theorem ways_any (k : Int) (w : World) : Calls Try.prog 63 #[.int .i64 k] w fun e w' => e = .returned (.agg #[.int .i64 (Act.wF k), .int .i64 (Act.wK k)]) ∧ Gr w w' := by
  by_cases h3 : k = 3
  · subst h3
    go_enter Try.func63, Try.ntmps63
    go_wp2
    exact bodyPost_ret (v := .agg #[.int .i64 (-1), .int .i64 1]) (by simp [results, Try.results63, go_sem]) rfl ⟨rfl, (by (with_reducible repeat' (first | exact Gr.refl _ | refine Gr.set ?_ _ ?_ _ | refine Gr.alloc ?_ | refine Gr.drew ?_ | refine Gr.trans ?_ (by assumption))) <;> (first | (simp; done) | (simp; omega) | omega))⟩
  by_cases h1 : k = 1
  · subst h1
    go_enter Try.func63, Try.ntmps63
    go_wp2
    exact bodyPost_ret (v := .agg #[.int .i64 (-1), .int .i64 0]) (by simp [results, Try.results63, go_sem]) rfl ⟨rfl, (by (with_reducible repeat' (first | exact Gr.refl _ | refine Gr.set ?_ _ ?_ _ | refine Gr.alloc ?_ | refine Gr.drew ?_ | refine Gr.trans ?_ (by assumption))) <;> (first | (simp; done) | (simp; omega) | omega))⟩
  by_cases h4 : k = 4
  · subst h4
    go_enter Try.func63, Try.ntmps63
    go_wp2
    exact bodyPost_ret (v := .agg #[.int .i64 1, .int .i64 (-1)]) (by simp [results, Try.results63, go_sem]) rfl ⟨rfl, (by (with_reducible repeat' (first | exact Gr.refl _ | refine Gr.set ?_ _ ?_ _ | refine Gr.alloc ?_ | refine Gr.drew ?_ | refine Gr.trans ?_ (by assumption))) <;> (first | (simp; done) | (simp; omega) | omega))⟩
  by_cases h2 : k = 2
  · subst h2
    go_enter Try.func63, Try.ntmps63
    go_wp2
    exact bodyPost_ret (v := .agg #[.int .i64 1, .int .i64 0]) (by simp [results, Try.results63, go_sem]) rfl ⟨rfl, (by (with_reducible repeat' (first | exact Gr.refl _ | refine Gr.set ?_ _ ?_ _ | refine Gr.alloc ?_ | refine Gr.drew ?_ | refine Gr.trans ?_ (by assumption))) <;> (first | (simp; done) | (simp; omega) | omega))⟩
  have e1 : (k == 1) = false := by simpa using h1
  have e2 : (k == 2) = false := by simpa using h2
  have e3 : (k == 3) = false := by simpa using h3
  have e4 : (k == 4) = false := by simpa using h4
  have EF : Hid (Act.wF k = 0) := by show _ = _; unfold Act.wF; rw [if_neg (by omega), if_neg (by omega)]
  have EK : Hid (Act.wK k = 0) := by show _ = _; unfold Act.wK; rw [if_neg (by omega), if_neg (by omega)]
  clear h1 h2 h3 h4
  go_enter Try.func63, Try.ntmps63
  go_wp2
  exact bodyPost_ret (v := .agg #[.int .i64 0, .int .i64 0]) (by simp [results, Try.results63, go_sem]) rfl ⟨by rw [EF.out, EK.out], (by (with_reducible repeat' (first | exact Gr.refl _ | refine Gr.set ?_ _ ?_ _ | refine Gr.alloc ?_ | refine Gr.drew ?_ | refine Gr.trans ?_ (by assumption))) <;> (first | (simp; done) | (simp; omega) | omega))⟩
set_option maxHeartbeats 1000000 in
theorem delta_any (k n : Int) (s : ByteArray) (w : World) (hs : s.size ≤ 9223372036854775807) :
    Calls Try.prog 29 #[.agg #[.int .i64 k, .string s, .int .i64 n]] w fun e w' => e = .returned (.tuple #[.int .i64 (Act.dF k s n), .int .i64 (Act.dK k s n)]) ∧ Gr w w' := by
  have HC : Hid (∀ w', Calls Try.prog 56 #[.agg #[.int .i64 k, .string s, .int .i64 n]] w' fun e w2 => e = .returned (.int .i64 (Act.chkE k s n)) ∧ Gr w' w2) := fun w' => actCheck_any k n s w' hs
  have HW : Hid (∀ w', Calls Try.prog 63 #[.int .i64 k] w' fun e w2 => e = .returned (.agg #[.int .i64 (Act.wF k), .int .i64 (Act.wK k)]) ∧ Gr w' w2) := fun w' => ways_any k w'
  unfold Act.dF Act.dK
  cases hb : Act.actB k s n with
  | false =>
    rw [Act.chk_no hb] at HC
    clear hb hs
    go_enter Try.func29, Try.ntmps29
    go_wp2_with fail
    refine (HC.out _).mono ?_
    rintro e w1 ⟨rfl, hg1⟩
    go_wp2
    go_ret2
    exact ⟨rfl, (by repeat (first | exact Gr.refl _ | refine Gr.alloc ?_ | refine Gr.drew ?_ | refine Gr.trans ?_ (by assumption)))⟩
  | true =>
    rw [Act.chk_yes hb] at HC
    have hr := (Act.act_iff k s n).1 hb
    obtain ⟨p1, p2⟩ : (-9223372036854775808 ≤ Act.wF k * n ∧ Act.wF k * n ≤ 9223372036854775807) ∧ (-9223372036854775808 ≤ Act.wK k * n ∧ Act.wK k * n ≤ 9223372036854775807) := Act.way_rng k n hr.2.2.1 hr.2.2.2
    have q1 : wrap64 (Act.wF k * n) = Act.wF k * n := wrap_in p1.1 p1.2
    have q2 : wrap64 (Act.wK k * n) = Act.wK k * n := wrap_in p2.1 p2.2
    clear hb hs hr p1 p2
    rw [if_pos rfl, if_pos rfl]
    obtain ⟨u, hu⟩ : ∃ u, u = Act.wF k * n := ⟨_, rfl⟩
    obtain ⟨v, hv⟩ : ∃ u, u = Act.wK k * n := ⟨_, rfl⟩
    have hq1 : wrap64 (Act.wF k * n) = u := q1.trans hu.symm
    have hq2 : wrap64 (Act.wK k * n) = v := q2.trans hv.symm
    rw [← hu, ← hv]
    clear q1 q2 hu hv
    generalize Act.wF k = f at *
    generalize Act.wK k = g at *
    go_enter Try.func29, Try.ntmps29
    go_wp2_with fail
    refine (HC.out _).mono ?_
    rintro e w1 ⟨rfl, hg1⟩
    have B := (BoxAt.new w _ _ _ _ w.heap.size rfl).gr hg1
    obtain ⟨b0, b1, b2, _, _, _, b6⟩ := B
    go_wp2_with fail
    refine (HW.out _).mono ?_
    rintro e w2 ⟨rfl, hg2⟩
    have c2 := hg2.keep b2
    have hlt : w.heap.size < w2.heap.size := Nat.lt_of_lt_of_le b6 hg2.size
    go_wp2_with fail
    go_quiet (fail)
    go_wp2
    go_ret2
    refine ⟨?_, Gr.drewN (by repeat (first | exact Gr.refl _ | refine Gr.alloc ?_ | refine Gr.drew ?_ | refine Gr.trans ?_ (by assumption))) _⟩
    show Ending.returned (.tuple #[.int .i64 (wrap64 (f * n)), .int .i64 (wrap64 (g * n))]) = _
    rw [hq1, hq2]
set_option maxHeartbeats 1000000 in
theorem refDelta_any (k n : Int) (s : ByteArray) (w : World) (hs : s.size ≤ 9223372036854775807) :
    Calls Try.prog 37 #[.agg #[.int .i64 k, .string s, .int .i64 n]] w fun e w' => e = .returned (.tuple #[.int .i64 (Act.dF k s n), .int .i64 (Act.dK k s n)]) ∧ Gr w w' := by
  have HC : Hid (∀ w', Calls Try.prog 44 #[.agg #[.int .i64 k, .string s, .int .i64 n]] w' fun e w2 => e = .returned (.int .i64 (Act.chkE k s n)) ∧ Gr w' w2) := fun w' => refActCheck_any k n s w' hs
  unfold Act.dF Act.dK
  cases hb : Act.actB k s n with
  | false =>
    rw [Act.chk_no hb] at HC
    clear hb hs
    go_enter Try.func37, Try.ntmps37
    go_wp2_with fail
    refine (HC.out _).mono ?_
    rintro e w1 ⟨rfl, hg1⟩
    go_wp2
    go_ret2
    exact ⟨rfl, (by repeat (first | exact Gr.refl _ | refine Gr.alloc ?_ | refine Gr.drew ?_ | refine Gr.trans ?_ (by assumption)))⟩
  | true =>
    rw [Act.chk_yes hb] at HC
    obtain ⟨⟨k1, k2⟩, _, n1, n2⟩ := (Act.act_iff k s n).1 hb
    clear hb hs
    rw [if_pos rfl, if_pos rfl]
    have hk : k = 1 ∨ k = 2 ∨ k = 3 ∨ k = 4 := by omega
    clear k1 k2
    have q1 : wrap64 (-n) = -n := wrap_in (by omega) (by omega)
    rcases hk with rfl | rfl | rfl | rfl
    · rw [show Act.wF 1 * n = -n by simp [Act.wF], show Act.wK 1 * n = 0 by simp [Act.wK]]
      go_enter Try.func37, Try.ntmps37
      go_wp2_with fail
      refine (HC.out _).mono ?_
      rintro e w1 ⟨rfl, hg1⟩
      obtain ⟨b0, b1, b2, _, _, _, b6⟩ := (BoxAt.new w _ _ _ _ w.heap.size rfl).gr hg1
      go_wp2
      go_ret2
      exact ⟨rfl, (by repeat (first | exact Gr.refl _ | refine Gr.alloc ?_ | refine Gr.drew ?_ | refine Gr.trans ?_ (by assumption)))⟩
    · rw [show Act.wF 2 * n = n by simp [Act.wF], show Act.wK 2 * n = 0 by simp [Act.wK]]
      go_enter Try.func37, Try.ntmps37
      go_wp2_with fail
      refine (HC.out _).mono ?_
      rintro e w1 ⟨rfl, hg1⟩
      obtain ⟨b0, b1, b2, _, _, _, b6⟩ := (BoxAt.new w _ _ _ _ w.heap.size rfl).gr hg1
      go_wp2
      go_ret2
      exact ⟨rfl, (by repeat (first | exact Gr.refl _ | refine Gr.alloc ?_ | refine Gr.drew ?_ | refine Gr.trans ?_ (by assumption)))⟩
    · rw [show Act.wF 3 * n = -n by simp [Act.wF], show Act.wK 3 * n = n by simp [Act.wK]]
      go_enter Try.func37, Try.ntmps37
      go_wp2_with fail
      refine (HC.out _).mono ?_
      rintro e w1 ⟨rfl, hg1⟩
      obtain ⟨b0, b1, b2, _, _, _, b6⟩ := (BoxAt.new w _ _ _ _ w.heap.size rfl).gr hg1
      go_wp2_with fail
      go_quiet (fail)
      go_wp2
      go_ret2
      exact ⟨rfl, Gr.drewN (by repeat (first | exact Gr.refl _ | refine Gr.alloc ?_ | refine Gr.drew ?_ | refine Gr.trans ?_ (by assumption))) _⟩
    · rw [show Act.wF 4 * n = n by simp [Act.wF], show Act.wK 4 * n = -n by simp [Act.wK]]
      go_enter Try.func37, Try.ntmps37
      go_wp2_with fail
      refine (HC.out _).mono ?_
      rintro e w1 ⟨rfl, hg1⟩
      obtain ⟨b0, b1, b2, _, _, _, b6⟩ := (BoxAt.new w _ _ _ _ w.heap.size rfl).gr hg1
      go_wp2_with fail
      go_quiet (fail)
      go_wp2
      go_ret2
      exact ⟨rfl, Gr.drewN (by repeat (first | exact Gr.refl _ | refine Gr.alloc ?_ | refine Gr.drew ?_ | refine Gr.trans ?_ (by assumption))) _⟩
theorem eqB (t s : ByteArray) : (t.toList == s.toList) = decide (t = s) := by
  rw [show t.toList = t.data.toList from ByteArray.toList_eq t, show s.toList = s.data.toList from ByteArray.toList_eq s]
  by_cases h : t = s
  · rw [decide_eq_true h]; exact beq_iff_eq.2 (by rw [h])
  · rw [decide_eq_false h]
    refine beq_eq_false_iff_ne.2 fun e => h ?_
    have : t.data = s.data := by simpa using e
    cases t; cases s; simp_all
set_option maxHeartbeats 1000000 in
theorem actFits_any (s : ByteArray) (a b c x y z : Int) (k n : Int) (t : ByteArray) (w : World) (hs : s.size ≤ 9223372036854775807) (ht : t.size ≤ 9223372036854775807) (hF1 : a ≤ 9223372036854775807) (hF2 : c ≤ 9223372036854775807) (hK1 : x ≤ 9223372036854775807) (hK2 : z ≤ 9223372036854775807) :
    Calls Try.prog 101 #[.agg #[.string s, .int .i64 a, .int .i64 b, .int .i64 c, .int .i64 x, .int .i64 y, .int .i64 z], .agg #[.int .i64 k, .string t, .int .i64 n]] w fun e w' => e = .returned (.int .i64 (Act.fitE s a b c x y z k t n)) ∧ Gr w w' := by
  have HM : Hid (∀ w', Calls Try.prog 70 #[.agg #[.string s, .int .i64 a, .int .i64 b, .int .i64 c, .int .i64 x, .int .i64 y, .int .i64 z]] w' fun e w2 => e = .returned (.int .i64 (Act.mayE s a b c x y z)) ∧ Gr w' w2) := fun w' => may_any s a b c x y z w' hs hF1 hF2 hK1 hK2
  have HC : Hid (∀ w', Calls Try.prog 56 #[.agg #[.int .i64 k, .string t, .int .i64 n]] w' fun e w2 => e = .returned (.int .i64 (Act.chkE k t n)) ∧ Gr w' w2) := fun w' => actCheck_any k n t w' ht
  have hq := eqB t s
  unfold Act.fitE
  unfold Act.mayE at HM
  unfold Act.chkE at HC
  clear hF1 hF2 hK1 hK2
  generalize Act.accB s a b c x y z = p at *
  generalize Act.actB k t n = q at *
  generalize decide (t = s) = r at *
  cases p with
  | false =>
    clear hq
    go_enter Try.func101, Try.ntmps101
    go_wp2_with fail
    refine (HM.out _).mono ?_
    rintro e w1 ⟨rfl, hg1⟩
    go_wp2
    go_ret
    exact ⟨rfl, (by repeat (first | exact Gr.refl _ | refine Gr.alloc ?_ | refine Gr.drew ?_ | refine Gr.trans ?_ (by assumption)))⟩
  | true =>
    cases q with
    | false =>
      clear hq
      go_enter Try.func101, Try.ntmps101
      go_wp2_with fail
      refine (HM.out _).mono ?_
      rintro e w1 ⟨rfl, hg1⟩
      obtain ⟨b0, b1, b2, _, _, _, b6⟩ := (BoxAt.new _ _ _ _ _ (w.heap.size + 1) (by simp)).gr hg1
      go_wp2_with fail
      refine (HC.out _).mono ?_
      rintro e w2 ⟨rfl, hg2⟩
      go_wp2
      go_ret
      exact ⟨rfl, (by repeat (first | exact Gr.refl _ | refine Gr.alloc ?_ | refine Gr.drew ?_ | refine Gr.trans ?_ (by assumption)))⟩
    | true =>
      cases r
      all_goals
        go_enter Try.func101, Try.ntmps101
        go_wp2_with fail
        refine (HM.out _).mono ?_
        rintro e w1 ⟨rfl, hg1⟩
        have X := ((AccAt.new w _ _ _ _ _ _ _ _ w.heap.size rfl).gr (Gr.refl _).alloc).gr hg1
        obtain ⟨b0, b1, b2, _, _, _, b6⟩ := (BoxAt.new _ _ _ _ _ (w.heap.size + 1) (by simp)).gr hg1
        go_wp2_with fail
        refine (HC.out _).mono ?_
        rintro e w2 ⟨rfl, hg2⟩
        have x0 := (X.gr hg2).c0
        have c1 := hg2.keep b1
        go_wp2
        go_ret
        exact ⟨rfl, (by repeat (first | exact Gr.refl _ | refine Gr.alloc ?_ | refine Gr.drew ?_ | refine Gr.trans ?_ (by assumption)))⟩
end Go.Proofs.Ytgidkmipecfjhaa
namespace Go.Proofs.Ytgidkmipecfjhaa
open Go.RowKit
open Led (Acc Mk)
set_option maxHeartbeats 4000000 in
set_option maxRecDepth 100000 in
theorem moved1_done (A : List Acc) (m : Mk) (free kept : Int) (F P : Nat) (ad : Option Addr) (cap : Nat) (f : Nat → Int) (w0 w : World) (hA : AccsAt w0 ad A) (hu : Led.upB (Led.nm A) = true) (hn : A.length ≤ 12) (hm : m.t ∈ Led.nm A) (hst : m.st = 1)
    (hF : w0.cell? ⟨F, 0, none⟩ = some (.func (.func 30) #[.slice ad A.length cap] #[])) (hP : w0.heap.size ≤ P) (hg : Gr w0 w) (hf : ArrAt w P f)
    (hfr : -1000000000000000 ≤ free ∧ free ≤ 1000000000000000) (hkp : -1000000000000000 ≤ kept ∧ kept ≤ 1000000000000000) (hb : ∀ j, -1000000000000000000 ≤ f j ∧ f j ≤ 1000000000000000000) :
    Calls Try.prog 72 #[.agg #[.string m.key, .int .i64 m.k, .string m.t, .int .i64 m.n, .int .i64 m.st], .int .i64 free, .int .i64 kept, .pointer (some ⟨F, 0, none⟩), .pointer (some ⟨P, 0, none⟩)] w fun e w' => e = .returned (.tuple #[]) ∧
      ArrAt w' P (upd (upd (upd (upd f (Led.pos (Led.nm A) m.t * 4) (f (Led.pos (Led.nm A) m.t * 4) + max free 0)) (Led.pos (Led.nm A) m.t * 4 + 1) (f (Led.pos (Led.nm A) m.t * 4 + 1) + max (-free) 0)) (Led.pos (Led.nm A) m.t * 4 + 2) (f (Led.pos (Led.nm A) m.t * 4 + 2) + max kept 0)) (Led.pos (Led.nm A) m.t * 4 + 3) (f (Led.pos (Led.nm A) m.t * 4 + 3) + max (-kept) 0)) ∧ Gr w0 w' := by
  have HF : Hid (∀ w', Gr w0 w' → Calls Try.prog 30 #[.slice ad A.length cap, .string m.t] w' fun e w2 => e = .returned (.tuple #[.int .i64 (Led.pos (Led.nm A) m.t : Nat), .bool (Led.hasB (Led.nm A) m.t)]) ∧ Gr w' w2) := fun w' g => findA_any A m.t ad cap w' (hA.gr g) hu (by omega)
  have hp : Led.pos (Led.nm A) m.t < 12 := by
    obtain ⟨h1, _⟩ := Led.pos_mem hu hm
    rw [Led.nm_len] at h1
    omega
  generalize Led.hasB (Led.nm A) m.t = has at *
  generalize Led.pos (Led.nm A) m.t = p at *
  obtain ⟨key, k, t, n, st⟩ := m
  simp only at hst HF ⊢
  subst hst
  clear hm hu hA
  have HB : Hid (∀ j, -1000000000000000000 ≤ f j ∧ f j ≤ 1000000000000000000) := hb
  have HP : Hid (w0.heap.size ≤ P) := hP
  have HG : Hid (Gr w0 w) := hg
  have HFF : Hid (w0.cell? ⟨F, 0, none⟩ = some (.func (.func 30) #[.slice ad A.length cap] #[])) := hF
  have HA : Hid (ArrAt w P f) := hf
  have hpi : (p : Int) < 12 := by omega
  have c0 := hg.keep hF
  have hFl : F < w.heap.size := World.block_lt_of_cell? w _ c0
  clear hb hP hF hf hg
  go_enter Try.func72, Try.ntmps72
  go_wp2_with fail
  refine (HF.out _ (HG.out.alloc)).mono ?_
  rintro e w1 ⟨rfl, hg1⟩
  have HG1 : Hid (Gr w w1) := (Gr.refl w).alloc.trans hg1
  have HA1 : Hid (ArrAt w1 P f) := HA.out.gr HG1.out
  have HG01 : Hid (Gr w0 w1) := HG.out.trans HG1.out
  clear hg1 HG1 HA HF HG c0
  have e0 := HA1.out.c (p * 4) (by omega)
  have q0 := HA1.out.fz (p * 4) (by omega)
  have el := HA1.out.lt
  have r0 : IntKind.i64.wrap (f (p * 4) + max free 0) = f (p * 4) + max free 0 := by rw [IntKind.wrap_i64]; have := HB.out (p * 4); omega
  have n1 : IntKind.i64.wrap (-free) = -free := by rw [IntKind.wrap_i64]; omega
  have n2 : IntKind.i64.wrap (-kept) = -kept := by rw [IntKind.wrap_i64]; omega
  go_wp2_with fail
  go_region
  obtain ⟨w2, ew2⟩ : ∃ x, x = (w1.setCell ⟨P, p * 4, none⟩ (.int .i64 (f (p * 4) + max free 0))).drew := ⟨_, rfl⟩
  rw [← ew2]
  have HA2 : Hid (ArrAt w2 P (upd f (p * 4) (f (p * 4) + max free 0))) := by show ArrAt _ _ _; rw [ew2]; exact (HA1.out.set (p * 4) (by omega) _).gr (Gr.refl _).drew
  have HG2 : Hid (Gr w0 w2) := by show Gr _ _; rw [ew2]; exact (HG01.out.set _ HP.out _).drew
  clear ew2 e0 q0 el r0 HA1 HG01
  have e0 : w2.cell? ⟨P, p * 4 + 1, none⟩ = some (.int .i64 (f (p * 4 + 1))) := by have := HA2.out.c (p * 4 + 1) (by omega); simpa [upd] using this
  have q0 := HA2.out.fz (p * 4 + 1) (by omega)
  have el := HA2.out.lt
  have r0 : IntKind.i64.wrap (f (p * 4 + 1) + max (-free) 0) = f (p * 4 + 1) + max (-free) 0 := by rw [IntKind.wrap_i64]; have := HB.out (p * 4 + 1); omega
  go_wp2_with fail
  go_region
  obtain ⟨w3, ew3⟩ : ∃ x, x = (w2.setCell ⟨P, p * 4 + 1, none⟩ (.int .i64 (f (p * 4 + 1) + max (-free) 0))).drew := ⟨_, rfl⟩
  rw [← ew3]
  have HA3 : Hid (ArrAt w3 P (upd (upd f (p * 4) (f (p * 4) + max free 0)) (p * 4 + 1) (f (p * 4 + 1) + max (-free) 0))) := by show ArrAt _ _ _; rw [ew3]; exact (HA2.out.set (p * 4 + 1) (by omega) _).gr (Gr.refl _).drew
  have HG3 : Hid (Gr w0 w3) := by show Gr _ _; rw [ew3]; exact (HG2.out.set _ HP.out _).drew
  clear ew3 e0 q0 el r0 HA2 HG2
  have e0 : w3.cell? ⟨P, p * 4 + 2, none⟩ = some (.int .i64 (f (p * 4 + 2))) := by have := HA3.out.c (p * 4 + 2) (by omega); simpa [upd] using this
  have q0 := HA3.out.fz (p * 4 + 2) (by omega)
  have el := HA3.out.lt
  have r0 : IntKind.i64.wrap (f (p * 4 + 2) + max kept 0) = f (p * 4 + 2) + max kept 0 := by rw [IntKind.wrap_i64]; have := HB.out (p * 4 + 2); omega
  go_wp2_with fail
  go_region
  obtain ⟨w4, ew4⟩ : ∃ x, x = (w3.setCell ⟨P, p * 4 + 2, none⟩ (.int .i64 (f (p * 4 + 2) + max kept 0))).drew := ⟨_, rfl⟩
  rw [← ew4]
  have HA4 : Hid (ArrAt w4 P (upd (upd (upd f (p * 4) (f (p * 4) + max free 0)) (p * 4 + 1) (f (p * 4 + 1) + max (-free) 0)) (p * 4 + 2) (f (p * 4 + 2) + max kept 0))) := by show ArrAt _ _ _; rw [ew4]; exact (HA3.out.set (p * 4 + 2) (by omega) _).gr (Gr.refl _).drew
  have HG4 : Hid (Gr w0 w4) := by show Gr _ _; rw [ew4]; exact (HG3.out.set _ HP.out _).drew
  clear ew4 e0 q0 el r0 HA3 HG3
  have e0 : w4.cell? ⟨P, p * 4 + 3, none⟩ = some (.int .i64 (f (p * 4 + 3))) := by have := HA4.out.c (p * 4 + 3) (by omega); simpa [upd] using this
  have q0 := HA4.out.fz (p * 4 + 3) (by omega)
  have el := HA4.out.lt
  have r0 : IntKind.i64.wrap (f (p * 4 + 3) + max (-kept) 0) = f (p * 4 + 3) + max (-kept) 0 := by rw [IntKind.wrap_i64]; have := HB.out (p * 4 + 3); omega
  go_wp2_with fail
  go_region
  obtain ⟨w5, ew5⟩ : ∃ x, x = (w4.setCell ⟨P, p * 4 + 3, none⟩ (.int .i64 (f (p * 4 + 3) + max (-kept) 0))).drew := ⟨_, rfl⟩
  rw [← ew5]
  have HA5 : Hid (ArrAt w5 P (upd (upd (upd (upd f (p * 4) (f (p * 4) + max free 0)) (p * 4 + 1) (f (p * 4 + 1) + max (-free) 0)) (p * 4 + 2) (f (p * 4 + 2) + max kept 0)) (p * 4 + 3) (f (p * 4 + 3) + max (-kept) 0))) := by show ArrAt _ _ _; rw [ew5]; exact (HA4.out.set (p * 4 + 3) (by omega) _).gr (Gr.refl _).drew
  have HG5 : Hid (Gr w0 w5) := by show Gr _ _; rw [ew5]; exact (HG4.out.set _ HP.out _).drew
  clear ew5 e0 q0 el r0 HA4 HG4
  go_wp2
  go_end0
  exact ⟨rfl, HA5.out, HG5.out⟩
set_option maxHeartbeats 400000 in
theorem moved1_not (m : Mk) (free kept : Int) (F P : Nat) (f : Nat → Int) (w0 w : World) (hst : m.st ≠ 1) (hg : Gr w0 w) (hf : ArrAt w P f) :
    Calls Try.prog 72 #[.agg #[.string m.key, .int .i64 m.k, .string m.t, .int .i64 m.n, .int .i64 m.st], .int .i64 free, .int .i64 kept, .pointer (some ⟨F, 0, none⟩), .pointer (some ⟨P, 0, none⟩)] w fun e w' => e = .returned (.tuple #[]) ∧ ArrAt w' P f ∧ Gr w0 w' := by
  have HG : Hid (Gr w0 w) := hg
  have HA : Hid (ArrAt w P f) := hf
  have h1 : (m.st == 1) = false := by simpa using hst
  clear hg hf hst
  go_enter Try.func72, Try.ntmps72
  go_wp2
  refine bodyPost_ret (results_none rfl _ _ _) rfl ?_
  exact ⟨rfl, HA.out.gr (Gr.refl _).alloc, HG.out.alloc⟩
end Go.Proofs.Ytgidkmipecfjhaa
namespace Go.Proofs.Ytgidkmipecfjhaa
open Go.RowKit
open Led (Acc Mk)
def pend4 (s : ByteArray) (i : Nat) (M : List Mk) : Int := match i with | 0 => Led.sm (Led.gFI s) M | 1 => Led.sm (Led.gFO s) M | 2 => Led.sm (Led.gKI s) M | _ => Led.sm (Led.gKO s) M
def g4 (s : ByteArray) (i : Nat) (m : Mk) : Int := match i with | 0 => Led.gFI s m | 1 => Led.gFO s m | 2 => Led.gKI s m | _ => Led.gKO s m
def mvF (A : List Acc) (M : List Mk) (j : Nat) : Int := match A[j / 4]? with | some x => pend4 x.s (j % 4) M | none => 0
theorem pend_snoc (s : ByteArray) (i : Nat) (T : List Mk) (m : Mk) : pend4 s i (T ++ [m]) = pend4 s i T + g4 s i m := by
  unfold pend4 g4
  split <;> (rw [Led.sm_app]; simp [Led.sm])
theorem g4_not (s : ByteArray) (i : Nat) (m : Mk) (h : Led.hit s m = false) : g4 s i m = 0 := by
  unfold g4 Led.gFI Led.gFO Led.gKI Led.gKO
  split <;> rw [h] <;> rfl
theorem hit_not {s : ByteArray} {m : Mk} (h : m.t ≠ s ∨ m.st ≠ 1) : Led.hit s m = false := by
  unfold Led.hit
  rcases h with h | h
  · rw [decide_eq_false h]; rfl
  · rw [decide_eq_false h]; simp
theorem hit_yes {m : Mk} (h : m.st = 1) : Led.hit m.t m = true := by unfold Led.hit; rw [decide_eq_true rfl, decide_eq_true h]; rfl
theorem mv_not (A : List Acc) (T : List Mk) (m : Mk) (h : m.st ≠ 1) (j : Nat) : mvF A T j = mvF A (T ++ [m]) j := by
  unfold mvF
  split
  · rw [pend_snoc, g4_not _ _ _ (hit_not (Or.inr h))]; omega
  · rfl
theorem mv_done (A : List Acc) (T : List Mk) (m : Mk) (hu : Led.upB (Led.nm A) = true) (hm : m.t ∈ Led.nm A) (hst : m.st = 1) (p : Nat) (hp : p = Led.pos (Led.nm A) m.t) (j : Nat) :
    upd (upd (upd (upd (mvF A T) (p * 4) (mvF A T (p * 4) + max (Led.amF m) 0)) (p * 4 + 1) (mvF A T (p * 4 + 1) + max (-Led.amF m) 0)) (p * 4 + 2) (mvF A T (p * 4 + 2) + max (Led.amK m) 0)) (p * 4 + 3) (mvF A T (p * 4 + 3) + max (-Led.amK m) 0) j = mvF A (T ++ [m]) j := by
  obtain ⟨h1, h2⟩ := Led.pos_mem hu hm
  rw [Led.nm_len] at h1
  rw [← hp] at h1
  have hx : A[p]? = some A[p] := List.getElem?_eq_getElem h1
  have hs : A[p].s = m.t := by
    have := Led.nm_get A p h1
    rw [← this]
    subst hp
    exact h2
  have hh := hit_yes hst
  by_cases h0 : j = p * 4 + 3
  · subst h0
    unfold upd; rw [if_pos rfl]
    unfold mvF
    rw [show (p * 4 + 3) / 4 = p by omega, hx, show (p * 4 + 3) % 4 = 3 by omega]
    simp only [pend_snoc, hs]
    unfold g4 Led.gKO; rw [if_pos hh]; rfl
  by_cases h3 : j = p * 4 + 2
  · subst h3
    unfold upd; rw [if_neg h0, if_pos rfl]
    unfold mvF
    rw [show (p * 4 + 2) / 4 = p by omega, hx, show (p * 4 + 2) % 4 = 2 by omega]
    simp only [pend_snoc, hs]
    unfold g4 Led.gKI; rw [if_pos hh]; rfl
  by_cases h4 : j = p * 4 + 1
  · subst h4
    unfold upd; rw [if_neg h0, if_neg h3, if_pos rfl]
    unfold mvF
    rw [show (p * 4 + 1) / 4 = p by omega, hx, show (p * 4 + 1) % 4 = 1 by omega]
    simp only [pend_snoc, hs]
    unfold g4 Led.gFO; rw [if_pos hh]; rfl
  by_cases h5 : j = p * 4
  · subst h5
    unfold upd; rw [if_neg h0, if_neg h3, if_neg h4, if_pos rfl]
    unfold mvF
    rw [show (p * 4) / 4 = p by omega, hx, show (p * 4) % 4 = 0 by omega]
    simp only [pend_snoc, hs]
    unfold g4 Led.gFI; rw [if_pos hh]; rfl
  unfold upd; rw [if_neg h0, if_neg h3, if_neg h4, if_neg h5]
  unfold mvF
  have hne : j / 4 ≠ p := by omega
  cases hy : A[j / 4]? with
  | none => rfl
  | some y =>
    obtain ⟨hj, hy'⟩ := List.getElem?_eq_some_iff.1 hy
    have : y.s ≠ m.t := fun e => hne (by
      have e1 := Led.nm_get A (j / 4) hj
      have e2 := Led.nm_get A p h1
      exact Led.up_one hu (by rw [Led.nm_len]; exact hj) (by rw [Led.nm_len]; exact h1) (by rw [e1, e2, hy', e, hs]))
    simp only [pend_snoc]
    rw [g4_not _ _ _ (hit_not (Or.inl fun e => this e.symm))]; omega
theorem mv_bound (A : List Acc) (T : List Mk) (h : ∀ m ∈ T, Act.actB m.k m.t m.n = true) (hl : T.length ≤ 500) (j : Nat) : -1000000000000000000 ≤ mvF A T j ∧ mvF A T j ≤ 1000000000000000000 := by
  unfold mvF
  split
  · rename_i x _
    have key : ∀ i, -(1000000000000000 * (T.length : Int)) ≤ pend4 x.s i T ∧ pend4 x.s i T ≤ 1000000000000000 * (T.length : Int) := by
      intro i
      unfold pend4
      split <;> (refine Led.sm_bound 1000000000000000 (fun m hm => ?_); have := Led.am_rng (h m hm)) <;> (first | unfold Led.gFI | unfold Led.gFO | unfold Led.gKI | unfold Led.gKO) <;> split <;> omega
    have := key (j % 4)
    omega
  · omega
set_option maxHeartbeats 4000000 in
set_option maxRecDepth 100000 in
theorem changesM_any (A : List Acc) (M : List Mk) (adA : Option Addr) (capA : Nat) (ad : Option Addr) (cap F P : Nat) (w0 w : World) (hA : AccsAt w0 adA A) (hu : Led.upB (Led.nm A) = true) (hn : A.length ≤ 12) (hM : MksAt w0 ad M) (hmk : Led.mksB A M = true)
    (hF : w0.cell? ⟨F, 0, none⟩ = some (.func (.func 30) #[.slice adA A.length capA] #[])) (hP : w0.heap.size ≤ P) (hg : Gr w0 w) (hf : ArrAt w P (fun _ => 0)) :
    Calls Try.prog 33 #[.slice ad M.length cap, .func (.func 72) #[] #[.pointer (some ⟨F, 0, none⟩), .pointer (some ⟨P, 0, none⟩)]] w fun e w' => e = .returned (.tuple #[]) ∧ ArrAt w' P (mvF A M) ∧ Gr w0 w' := by
  obtain ⟨hl5, hok, hup⟩ := (Led.mks_iff A M).1 hmk
  have HL : Hid (MksAt w0 ad M) := hM
  have HD : Hid (∀ m w', m ∈ M → Calls Try.prog 29 #[.agg #[.int .i64 m.k, .string m.t, .int .i64 m.n]] w' fun e w2 => e = .returned (.tuple #[.int .i64 (Led.amF m), .int .i64 (Led.amK m)]) ∧ Gr w' w2) := by
    intro m w' hm
    obtain ⟨_, h2, _⟩ := (Led.mk_iff A m).1 (hok m hm)
    have h16 := (Act.name_pos ((Act.act_iff _ _ _).1 h2).2.1).2
    exact delta_any m.k m.n m.t w' (by omega)
  have HC : Hid (∀ (k : Nat) (h : k < M.length) w', Gr w0 w' → ArrAt w' P (mvF A (M.take k)) → Calls Try.prog 72 #[.agg #[.string M[k].key, .int .i64 M[k].k, .string M[k].t, .int .i64 M[k].n, .int .i64 M[k].st], .int .i64 (Led.amF M[k]), .int .i64 (Led.amK M[k]), .pointer (some ⟨F, 0, none⟩), .pointer (some ⟨P, 0, none⟩)] w' fun e w2 => e = .returned (.tuple #[]) ∧ ArrAt w2 P (mvF A (M.take (k + 1))) ∧ Gr w0 w2) := by
    intro k h w' g hf'
    have hm := List.getElem_mem h
    obtain ⟨_, h2, h3, _⟩ := (Led.mk_iff A M[k]).1 (hok _ hm)
    have hr := Led.am_rng h2
    have hb := mv_bound A (M.take k) (fun m hm => ((Led.mk_iff A m).1 (hok m (List.mem_of_mem_take hm))).2.1) (by rw [List.length_take]; omega)
    by_cases hst : M[k].st = 1
    · refine (moved1_done A M[k] (Led.amF M[k]) (Led.amK M[k]) F P adA capA (mvF A (M.take k)) w0 w' hA hu hn h3 hst hF hP g hf' hr.1 hr.2 hb).mono ?_
      rintro e w2 ⟨he, ha, hg2⟩
      refine ⟨he, ha.congr (fun j _ => ?_), hg2⟩
      rw [mv_done A (M.take k) M[k] hu h3 hst _ rfl j, List.take_succ_eq_append_getElem h]
    · refine (moved1_not M[k] (Led.amF M[k]) (Led.amK M[k]) F P (mvF A (M.take k)) w0 w' hst g hf').mono ?_
      rintro e w2 ⟨he, ha, hg2⟩
      refine ⟨he, ha.congr (fun j _ => ?_), hg2⟩
      rw [mv_not A (M.take k) M[k] hst j, List.take_succ_eq_append_getElem h]
  have HS : Hid (ArrAt w P (mvF A (M.take 0))) := hf.congr (fun j _ => by unfold mvF; split <;> first | rfl | (unfold pend4; split <;> rfl))
  have HG : Hid (Gr w0 w) := hg
  clear hA hu hn hM hmk hF hg hf hok hup
  go_enter Try.func33, Try.ntmps33
  go_wp2
  go_loopw [10] (fun s10 wr => ∃ k : Nat, s10 = .int .i64 k ∧ k ≤ M.length ∧ ArrAt wr P (mvF A (M.take k)) ∧ Gr w0 wr) (fun s10 _ => M.length - (intOf s10).toNat)
  case atStart => exact ⟨0, rfl, Nat.zero_le _, HS.out, HG.out⟩
  case round =>
    clear HS HG
    obtain ⟨k, rfl, hk, ha, hg⟩ := hrel
    have HAr : Hid (ArrAt wr P (mvF A (M.take k))) := ha
    have HG : Hid (Gr w0 wr) := hg
    clear ha hg
    by_cases hlt : k < M.length
    · obtain ⟨b, off, rfl, hb, d0, d1, d2, d3, d4⟩ := (MksAt.at HL.out k hlt)
      have d0 := HG.out.keep d0
      have d1 := HG.out.keep d1
      have d2 := HG.out.keep d2
      have d3 := HG.out.keep d3
      have d4 := HG.out.keep d4
      have hbw : b < wr.heap.size := Nat.lt_of_lt_of_le hb HG.out.size
      have hki : (k : Int) < (M.length : Int) := by omega
      have hD := fun w' => HD.out M[k] w' (List.getElem_mem hlt)
      have hC := HC.out k hlt
      clear HC HD
      generalize Led.amF M[k] = fr at *
      generalize Led.amK M[k] = kp at *
      generalize M[k] = x at *
      have HD1 : Hid (∀ w', Calls Try.prog 29 #[.agg #[.int .i64 x.k, .string x.t, .int .i64 x.n]] w' fun e w2 => e = .returned (.tuple #[.int .i64 fr, .int .i64 kp]) ∧ Gr w' w2) := hD
      have HC1 : Hid (∀ w', Gr w0 w' → ArrAt w' P (mvF A (M.take k)) → Calls Try.prog 72 #[.agg #[.string x.key, .int .i64 x.k, .string x.t, .int .i64 x.n, .int .i64 x.st], .int .i64 fr, .int .i64 kp, .pointer (some ⟨F, 0, none⟩), .pointer (some ⟨P, 0, none⟩)] w' fun e w2 => e = .returned (.tuple #[]) ∧ ArrAt w2 P (mvF A (M.take (k + 1))) ∧ Gr w0 w2) := hC
      clear hD hC
      go_wp2_with fail
      refine (HD1.out _).mono ?_
      rintro e w1 ⟨rfl, hg1⟩
      obtain ⟨b0, b1, b2, b3, b4, _, b6⟩ := (FiveAt.new wr _ _ _ _ _ _ wr.heap.size rfl).gr hg1
      have HG1 : Hid (Gr w0 w1) := HG.out.alloc.trans hg1
      have HAr1 : Hid (ArrAt w1 P (mvF A (M.take k))) := HAr.out.gr ((Gr.refl wr).alloc.trans hg1)
      clear hg1 HG HAr d0 d1 d2 d3 d4
      go_wp2_with fail
      refine (HC1.out _ HG1.out HAr1.out).mono ?_
      rintro e w2 ⟨rfl, ha2, hg2⟩
      have HG2 : Hid (Gr w0 w2) := hg2
      have HAr2 : Hid (ArrAt w2 P (mvF A (M.take (k + 1)))) := ha2
      clear ha2 hg2
      go_wp2
      go_roundw
      case rel => exact ⟨k + 1, by go_num, by omega, HAr2.out, HG2.out⟩
      case measure => simp [intOf]; omega
    · have hge : ¬ ((k : Int) < (M.length : Int)) := by omega
      obtain rfl : k = M.length := by omega
      have HE : Hid (ArrAt wr P (mvF A M)) := by have := HAr.out; rw [List.take_length] at this; exact this
      go_wp2
      go_end0
      exact ⟨rfl, HE.out, HG.out⟩
set_option maxHeartbeats 4000000 in
set_option maxRecDepth 100000 in
theorem moved_any (A : List Acc) (M : List Mk) (adA : Option Addr) (capA : Nat) (ad : Option Addr) (cap : Nat) (w : World) (hA : AccsAt w adA A) (hu : Led.upB (Led.nm A) = true) (hn : A.length ≤ 12) (hM : MksAt w ad M) (hmk : Led.mksB A M = true) :
    Calls Try.prog 42 #[.slice ad M.length cap, .func (.func 30) #[.slice adA A.length capA] #[]] w fun e w' => e = .returned (.agg (arrL (mvF A M)).toArray) ∧ Gr w w' := by
  have HC : Hid (∀ (F P : Nat) (w0 w' : World), Gr w w0 → w0.cell? ⟨F, 0, none⟩ = some (.func (.func 30) #[.slice adA A.length capA] #[]) → w0.heap.size ≤ P → Gr w0 w' → ArrAt w' P (fun _ => 0) →
      Calls Try.prog 33 #[.slice ad M.length cap, .func (.func 72) #[] #[.pointer (some ⟨F, 0, none⟩), .pointer (some ⟨P, 0, none⟩)]] w' fun e w2 => e = .returned (.tuple #[]) ∧ ArrAt w2 P (mvF A M) ∧ Gr w0 w2) :=
    fun F P w0 w' g h1 h2 h3 h4 => changesM_any A M adA capA ad cap F P w0 w' (hA.gr g) hu hn (hM.gr g) hmk h1 h2 h3 h4
  have hut := Try.underlying82
  clear hA hu hn hM hmk
  have hmf : ∀ (fn : Fn) (first cap : Array Value) (w : World), (Instr.makeFunc fn first cap).run Try.prog w = .ok (.func fn first cap) w := fun _ _ _ _ => rfl
  go_enter Try.func42, Try.ntmps42
  go_wp2_with fail
  have gw : Gr w ((w.alloc (.cells #[.func (.func 30) #[.slice adA A.length capA] #[]] 108)).alloc (.cells (arrL (fun _ => 0)).toArray 82)) := (Gr.refl _).alloc.alloc
  have hR : ArrAt ((w.alloc (.cells #[.func (.func 30) #[.slice adA A.length capA] #[]] 108)).alloc (.cells (arrL (fun _ => 0)).toArray 82)) (w.heap.size + 1) (fun _ => 0) := ArrAt.new _ _ _ _ _ (by simp) rfl
  have hP : ArrAt (((w.alloc (.cells #[.func (.func 30) #[.slice adA A.length capA] #[]] 108)).alloc (.cells (arrL (fun _ => 0)).toArray 82)).alloc (.cells (arrL (fun _ => 0)).toArray 82)) (w.heap.size + 1 + 1) (fun _ => 0) := ArrAt.new _ _ _ _ _ (by simp) rfl
  have HR : Hid (ArrAt _ _ _) := hR
  have HW : Hid (Gr w _) := gw
  refine (HC.out w.heap.size (w.heap.size + 1 + 1) ((w.alloc (.cells #[.func (.func 30) #[.slice adA A.length capA] #[]] 108)).alloc (.cells (arrL (fun _ => 0)).toArray 82)) _ gw (by simp) (by simp) (Gr.refl _).alloc hP).mono ?_
  rintro e w2 ⟨rfl, ha2, hg2⟩
  have HR2 : Hid (ArrAt w2 (w.heap.size + 1) (fun _ => 0)) := HR.out.gr hg2
  have HA2 : Hid (ArrAt w2 (w.heap.size + 1 + 1) (mvF A M)) := ha2
  have HG2 : Hid (Gr w w2) := HW.out.trans hg2
  clear HR HW hR hP gw ha2 hg2 HC
  go_wp2_with (first
    | (refine wpList_load_mid rfl 82 _ rfl (w.heap.size + 1 + 1) 0 rfl (arrL (mvF A M)) _ HA2.out.range hut rfl (by rw [arrL_len]; exact arr_size) ?_)
    | (refine wpList_store_mid rfl 82 _ _ rfl (w.heap.size + 1) 0 (arrL (mvF A M)).toArray rfl rfl (by simpa [arrL_len] using HR2.out.there) (by rw [List.size_toArray, arrL_len]; exact arr_size) (all_oneCell_toArray (arrL_one _)) ?_)
    | fail)
  exact bodyPost_ret (v := .agg (arrL (mvF A M)).toArray) (results_arr Try.results42 _ _ _ _ rfl (HR2.out.stored _)) rfl ⟨rfl, HG2.out.setCells _ (by omega) _ _⟩
end Go.Proofs.Ytgidkmipecfjhaa
