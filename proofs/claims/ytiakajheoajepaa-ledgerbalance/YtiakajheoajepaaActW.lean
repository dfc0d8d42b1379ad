/- act: ways, Delta, fits; the document's Delta; strings.Clone. -/
import Derived.Test.YtiakajheoajepaaActC
import Derived.Test.YtiakajheoajepaaShelf
import Derived.BigQuiet
namespace Go.Proofs.Ytiakajheoajepaa
open Go.RowKit

theorem wrap_in {n : Int} (h0 : -9223372036854775808 ≤ n) (h1 : n ≤ 9223372036854775807) : wrap64 n = n := by unfold wrap64; omega
theorem Gr.drewN {a b : World} (h : Gr a b) (n : Nat) : Gr a (b.drewN n) := by
  induction n with
  | zero => exact h
  | succ n ih => exact ih.drew

set_option maxHeartbeats 400000 in
theorem clone_any (s : ByteArray) (w : World) (hs : s.size ≤ 140737488355328) : Calls Try.prog 31 #[.string s] w fun e w' => e = .returned (.string s) ∧ Gr w w' := by
  have HC : Hid (∀ w : World, Calls Try.prog 67 #[.string s] w fun e w' => e = .returned (.string s) ∧ Below w.heap.size w w') := fun w => Try.stringslite_Clone s w (by omega)
  go_enter Try.func31, Try.ntmps31
  go_wp2_with fail
  refine (HC.out _).mono ?_
  rintro e w1 ⟨rfl, hb⟩
  go_wp2
  go_ret
  exact ⟨rfl, ⟨hb⟩⟩

set_option maxHeartbeats 1000000 in
theorem ways_any (k : Int) (w : World) : Calls Try.prog 63 #[.int .i64 k] w fun e w' => e = .returned (.agg #[.int .i64 (Act.wF k), .int .i64 (Act.wK k)]) ∧ Gr w w' := by
  by_cases h3 : k = 3
  · subst h3
    go_enter Try.func63, Try.ntmps63
    go_wp2
    exact bodyPost_ret (v := .agg #[.int .i64 (-1), .int .i64 1]) (by simp [results, Try.results63, go_sem]) rfl ⟨rfl, (by (repeat' (first | with_reducible exact Gr.refl _ | with_reducible refine Gr.set ?_ _ ?_ _ | with_reducible refine Gr.alloc ?_ | with_reducible refine Gr.drew ?_ | with_reducible refine Gr.trans ?_ (by assumption))) <;> (first | (simp; done) | (simp; omega) | omega))⟩
  by_cases h1 : k = 1
  · subst h1
    go_enter Try.func63, Try.ntmps63
    go_wp2
    exact bodyPost_ret (v := .agg #[.int .i64 (-1), .int .i64 0]) (by simp [results, Try.results63, go_sem]) rfl ⟨rfl, (by (repeat' (first | with_reducible exact Gr.refl _ | with_reducible refine Gr.set ?_ _ ?_ _ | with_reducible refine Gr.alloc ?_ | with_reducible refine Gr.drew ?_ | with_reducible refine Gr.trans ?_ (by assumption))) <;> (first | (simp; done) | (simp; omega) | omega))⟩
  by_cases h4 : k = 4
  · subst h4
    go_enter Try.func63, Try.ntmps63
    go_wp2
    exact bodyPost_ret (v := .agg #[.int .i64 1, .int .i64 (-1)]) (by simp [results, Try.results63, go_sem]) rfl ⟨rfl, (by (repeat' (first | with_reducible exact Gr.refl _ | with_reducible refine Gr.set ?_ _ ?_ _ | with_reducible refine Gr.alloc ?_ | with_reducible refine Gr.drew ?_ | with_reducible refine Gr.trans ?_ (by assumption))) <;> (first | (simp; done) | (simp; omega) | omega))⟩
  by_cases h2 : k = 2
  · subst h2
    go_enter Try.func63, Try.ntmps63
    go_wp2
    exact bodyPost_ret (v := .agg #[.int .i64 1, .int .i64 0]) (by simp [results, Try.results63, go_sem]) rfl ⟨rfl, (by (repeat' (first | with_reducible exact Gr.refl _ | with_reducible refine Gr.set ?_ _ ?_ _ | with_reducible refine Gr.alloc ?_ | with_reducible refine Gr.drew ?_ | with_reducible refine Gr.trans ?_ (by assumption))) <;> (first | (simp; done) | (simp; omega) | omega))⟩
  have e1 : (k == 1) = false := by simpa using h1
  have e2 : (k == 2) = false := by simpa using h2
  have e3 : (k == 3) = false := by simpa using h3
  have e4 : (k == 4) = false := by simpa using h4
  have EF : Hid (Act.wF k = 0) := by show _ = _; unfold Act.wF; rw [if_neg (by omega), if_neg (by omega)]
  have EK : Hid (Act.wK k = 0) := by show _ = _; unfold Act.wK; rw [if_neg (by omega), if_neg (by omega)]
  clear h1 h2 h3 h4
  go_enter Try.func63, Try.ntmps63
  go_wp2
  exact bodyPost_ret (v := .agg #[.int .i64 0, .int .i64 0]) (by simp [results, Try.results63, go_sem]) rfl ⟨by rw [EF.out, EK.out], (by (repeat' (first | with_reducible exact Gr.refl _ | with_reducible refine Gr.set ?_ _ ?_ _ | with_reducible refine Gr.alloc ?_ | with_reducible refine Gr.drew ?_ | with_reducible refine Gr.trans ?_ (by assumption))) <;> (first | (simp; done) | (simp; omega) | omega))⟩

set_option maxHeartbeats 1000000 in
theorem delta_any (k n : Int) (s : ByteArray) (w : World) (hs : s.size ≤ 9223372036854775807) :
    Calls Try.prog 29 #[.agg #[.int .i64 k, .string s, .int .i64 n]] w fun e w' => e = .returned (.tuple #[.int .i64 (Act.dF k s n), .int .i64 (Act.dK k s n)]) ∧ Gr w w' := by
  have HC : Hid (∀ w', Calls Try.prog 56 #[.agg #[.int .i64 k, .string s, .int .i64 n]] w' fun e w2 => e = .returned (.int .i64 (Act.chkE k s n)) ∧ Gr w' w2) := fun w' => actCheck_any k n s w' hs
  have HW : Hid (∀ w', Calls Try.prog 63 #[.int .i64 k] w' fun e w2 => e = .returned (.agg #[.int .i64 (Act.wF k), .int .i64 (Act.wK k)]) ∧ Gr w' w2) := fun w' => ways_any k w'
  unfold Act.dF Act.dK
  cases hb : Act.actB k s n with
  | false =>
    rw [Act.chk_no hb] at HC
    clear hb hs
    go_enter Try.func29, Try.ntmps29
    go_wp2_with fail
    refine (HC.out _).mono ?_
    rintro e w1 ⟨rfl, hg1⟩
    go_wp2
    go_ret2
    exact ⟨rfl, (by repeat (first | exact Gr.refl _ | refine Gr.alloc ?_ | refine Gr.drew ?_ | refine Gr.trans ?_ (by assumption)))⟩
  | true =>
    rw [Act.chk_yes hb] at HC
    have hr := (Act.act_iff k s n).1 hb
    obtain ⟨p1, p2⟩ : (-9223372036854775808 ≤ Act.wF k * n ∧ Act.wF k * n ≤ 9223372036854775807) ∧ (-9223372036854775808 ≤ Act.wK k * n ∧ Act.wK k * n ≤ 9223372036854775807) := Act.way_rng k n hr.2.2.1 hr.2.2.2
    have q1 : wrap64 (Act.wF k * n) = Act.wF k * n := wrap_in p1.1 p1.2
    have q2 : wrap64 (Act.wK k * n) = Act.wK k * n := wrap_in p2.1 p2.2
    clear hb hs hr p1 p2
    rw [if_pos rfl, if_pos rfl]
    obtain ⟨u, hu⟩ : ∃ u, u = Act.wF k * n := ⟨_, rfl⟩
    obtain ⟨v, hv⟩ : ∃ u, u = Act.wK k * n := ⟨_, rfl⟩
    have hq1 : wrap64 (Act.wF k * n) = u := q1.trans hu.symm
    have hq2 : wrap64 (Act.wK k * n) = v := q2.trans hv.symm
    rw [← hu, ← hv]
    clear q1 q2 hu hv
    generalize Act.wF k = f at *
    generalize Act.wK k = g at *
    go_enter Try.func29, Try.ntmps29
    go_wp2_with fail
    refine (HC.out _).mono ?_
    rintro e w1 ⟨rfl, hg1⟩
    have B := (BoxAt.new w _ _ _ _ w.heap.size rfl).gr hg1
    obtain ⟨b0, b1, b2, _, _, _, b6⟩ := B
    go_wp2_with fail
    refine (HW.out _).mono ?_
    rintro e w2 ⟨rfl, hg2⟩
    have c2 := hg2.keep b2
    have hlt : w.heap.size < w2.heap.size := Nat.lt_of_lt_of_le b6 hg2.size
    go_wp2_with fail
    go_quiet (fail)
    go_wp2
    go_ret2
    refine ⟨?_, Gr.drewN (by repeat (first | exact Gr.refl _ | refine Gr.alloc ?_ | refine Gr.drew ?_ | refine Gr.trans ?_ (by assumption))) _⟩
    show Ending.returned (.tuple #[.int .i64 (wrap64 (f * n)), .int .i64 (wrap64 (g * n))]) = _
    rw [hq1, hq2]

set_option maxHeartbeats 1000000 in
theorem refDelta_any (k n : Int) (s : ByteArray) (w : World) (hs : s.size ≤ 9223372036854775807) :
    Calls Try.prog 37 #[.agg #[.int .i64 k, .string s, .int .i64 n]] w fun e w' => e = .returned (.tuple #[.int .i64 (Act.dF k s n), .int .i64 (Act.dK k s n)]) ∧ Gr w w' := by
  have HC : Hid (∀ w', Calls Try.prog 44 #[.agg #[.int .i64 k, .string s, .int .i64 n]] w' fun e w2 => e = .returned (.int .i64 (Act.chkE k s n)) ∧ Gr w' w2) := fun w' => refActCheck_any k n s w' hs
  unfold Act.dF Act.dK
  cases hb : Act.actB k s n with
  | false =>
    rw [Act.chk_no hb] at HC
    clear hb hs
    go_enter Try.func37, Try.ntmps37
    go_wp2_with fail
    refine (HC.out _).mono ?_
    rintro e w1 ⟨rfl, hg1⟩
    go_wp2
    go_ret2
    exact ⟨rfl, (by repeat (first | exact Gr.refl _ | refine Gr.alloc ?_ | refine Gr.drew ?_ | refine Gr.trans ?_ (by assumption)))⟩
  | true =>
    rw [Act.chk_yes hb] at HC
    obtain ⟨⟨k1, k2⟩, _, n1, n2⟩ := (Act.act_iff k s n).1 hb
    clear hb hs
    rw [if_pos rfl, if_pos rfl]
    have hk : k = 1 ∨ k = 2 ∨ k = 3 ∨ k = 4 := by omega
    clear k1 k2
    have q1 : wrap64 (-n) = -n := wrap_in (by omega) (by omega)
    rcases hk with rfl | rfl | rfl | rfl
    · rw [show Act.wF 1 * n = -n by simp [Act.wF], show Act.wK 1 * n = 0 by simp [Act.wK]]
      go_enter Try.func37, Try.ntmps37
      go_wp2_with fail
      refine (HC.out _).mono ?_
      rintro e w1 ⟨rfl, hg1⟩
      obtain ⟨b0, b1, b2, _, _, _, b6⟩ := (BoxAt.new w _ _ _ _ w.heap.size rfl).gr hg1
      go_wp2
      go_ret2
      exact ⟨rfl, (by repeat (first | exact Gr.refl _ | refine Gr.alloc ?_ | refine Gr.drew ?_ | refine Gr.trans ?_ (by assumption)))⟩
    · rw [show Act.wF 2 * n = n by simp [Act.wF], show Act.wK 2 * n = 0 by simp [Act.wK]]
      go_enter Try.func37, Try.ntmps37
      go_wp2_with fail
      refine (HC.out _).mono ?_
      rintro e w1 ⟨rfl, hg1⟩
      obtain ⟨b0, b1, b2, _, _, _, b6⟩ := (BoxAt.new w _ _ _ _ w.heap.size rfl).gr hg1
      go_wp2
      go_ret2
      exact ⟨rfl, (by repeat (first | exact Gr.refl _ | refine Gr.alloc ?_ | refine Gr.drew ?_ | refine Gr.trans ?_ (by assumption)))⟩
    · rw [show Act.wF 3 * n = -n by simp [Act.wF], show Act.wK 3 * n = n by simp [Act.wK]]
      go_enter Try.func37, Try.ntmps37
      go_wp2_with fail
      refine (HC.out _).mono ?_
      rintro e w1 ⟨rfl, hg1⟩
      obtain ⟨b0, b1, b2, _, _, _, b6⟩ := (BoxAt.new w _ _ _ _ w.heap.size rfl).gr hg1
      go_wp2_with fail
      go_quiet (fail)
      go_wp2
      go_ret2
      exact ⟨rfl, Gr.drewN (by repeat (first | exact Gr.refl _ | refine Gr.alloc ?_ | refine Gr.drew ?_ | refine Gr.trans ?_ (by assumption))) _⟩
    · rw [show Act.wF 4 * n = n by simp [Act.wF], show Act.wK 4 * n = -n by simp [Act.wK]]
      go_enter Try.func37, Try.ntmps37
      go_wp2_with fail
      refine (HC.out _).mono ?_
      rintro e w1 ⟨rfl, hg1⟩
      obtain ⟨b0, b1, b2, _, _, _, b6⟩ := (BoxAt.new w _ _ _ _ w.heap.size rfl).gr hg1
      go_wp2_with fail
      go_quiet (fail)
      go_wp2
      go_ret2
      exact ⟨rfl, Gr.drewN (by repeat (first | exact Gr.refl _ | refine Gr.alloc ?_ | refine Gr.drew ?_ | refine Gr.trans ?_ (by assumption))) _⟩

theorem eqB (t s : ByteArray) : (t.toList == s.toList) = decide (t = s) := by
  rw [show t.toList = t.data.toList from ByteArray.toList_eq t, show s.toList = s.data.toList from ByteArray.toList_eq s]
  by_cases h : t = s
  · rw [decide_eq_true h]; exact beq_iff_eq.2 (by rw [h])
  · rw [decide_eq_false h]
    refine beq_eq_false_iff_ne.2 fun e => h ?_
    have : t.data = s.data := by simpa using e
    cases t; cases s; simp_all

set_option maxHeartbeats 1000000 in
theorem actFits_any (s : ByteArray) (a b c x y z : Int) (k n : Int) (t : ByteArray) (w : World) (hs : s.size ≤ 9223372036854775807) (ht : t.size ≤ 9223372036854775807) (hF1 : a ≤ 9223372036854775807) (hF2 : c ≤ 9223372036854775807) (hK1 : x ≤ 9223372036854775807) (hK2 : z ≤ 9223372036854775807) :
    Calls Try.prog 101 #[.agg #[.string s, .int .i64 a, .int .i64 b, .int .i64 c, .int .i64 x, .int .i64 y, .int .i64 z], .agg #[.int .i64 k, .string t, .int .i64 n]] w fun e w' => e = .returned (.int .i64 (Act.fitE s a b c x y z k t n)) ∧ Gr w w' := by
  have HM : Hid (∀ w', Calls Try.prog 70 #[.agg #[.string s, .int .i64 a, .int .i64 b, .int .i64 c, .int .i64 x, .int .i64 y, .int .i64 z]] w' fun e w2 => e = .returned (.int .i64 (Act.mayE s a b c x y z)) ∧ Gr w' w2) := fun w' => may_any s a b c x y z w' hs hF1 hF2 hK1 hK2
  have HC : Hid (∀ w', Calls Try.prog 56 #[.agg #[.int .i64 k, .string t, .int .i64 n]] w' fun e w2 => e = .returned (.int .i64 (Act.chkE k t n)) ∧ Gr w' w2) := fun w' => actCheck_any k n t w' ht
  have hq := eqB t s
  unfold Act.fitE
  unfold Act.mayE at HM
  unfold Act.chkE at HC
  clear hF1 hF2 hK1 hK2
  generalize Act.accB s a b c x y z = p at *
  generalize Act.actB k t n = q at *
  generalize decide (t = s) = r at *
  cases p with
  | false =>
    clear hq
    go_enter Try.func101, Try.ntmps101
    go_wp2_with fail
    refine (HM.out _).mono ?_
    rintro e w1 ⟨rfl, hg1⟩
    go_wp2
    go_ret
    exact ⟨rfl, (by repeat (first | exact Gr.refl _ | refine Gr.alloc ?_ | refine Gr.drew ?_ | refine Gr.trans ?_ (by assumption)))⟩
  | true =>
    cases q with
    | false =>
      clear hq
      go_enter Try.func101, Try.ntmps101
      go_wp2_with fail
      refine (HM.out _).mono ?_
      rintro e w1 ⟨rfl, hg1⟩
      obtain ⟨b0, b1, b2, _, _, _, b6⟩ := (BoxAt.new _ _ _ _ _ (w.heap.size + 1) (by simp)).gr hg1
      go_wp2_with fail
      refine (HC.out _).mono ?_
      rintro e w2 ⟨rfl, hg2⟩
      go_wp2
      go_ret
      exact ⟨rfl, (by repeat (first | exact Gr.refl _ | refine Gr.alloc ?_ | refine Gr.drew ?_ | refine Gr.trans ?_ (by assumption)))⟩
    | true =>
      cases r
      all_goals
        go_enter Try.func101, Try.ntmps101
        go_wp2_with fail
        refine (HM.out _).mono ?_
        rintro e w1 ⟨rfl, hg1⟩
        have X := ((AccAt.new w _ _ _ _ _ _ _ _ w.heap.size rfl).gr (Gr.refl _).alloc).gr hg1
        obtain ⟨b0, b1, b2, _, _, _, b6⟩ := (BoxAt.new _ _ _ _ _ (w.heap.size + 1) (by simp)).gr hg1
        go_wp2_with fail
        refine (HC.out _).mono ?_
        rintro e w2 ⟨rfl, hg2⟩
        have x0 := (X.gr hg2).c0
        have c1 := hg2.keep b1
        go_wp2
        go_ret
        exact ⟨rfl, (by repeat (first | exact Gr.refl _ | refine Gr.alloc ?_ | refine Gr.drew ?_ | refine Gr.trans ?_ (by assumption)))⟩
end Go.Proofs.Ytiakajheoajepaa
