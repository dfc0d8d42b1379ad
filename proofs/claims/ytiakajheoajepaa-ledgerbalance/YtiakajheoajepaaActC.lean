/- act: Check, May; and the document's. -/
import Derived.Test.YtiakajheoajepaaActO
import Derived.Test.YtiakajheoajepaaAccA
import Derived.Test.YtiakajheoajepaaPotP
namespace Go.Proofs.Ytiakajheoajepaa
open Go.RowKit

set_option maxHeartbeats 1000000 in
theorem actCheck_any (k n : Int) (s : ByteArray) (w : World) (hs : s.size ≤ 9223372036854775807) :
    Calls Try.prog 56 #[.agg #[.int .i64 k, .string s, .int .i64 n]] w fun e w' => e = .returned (.int .i64 (Act.chkE k s n)) ∧ Gr w w' := by
  have HN : Hid (∀ w', Calls Try.prog 49 #[.string s] w' fun e w2 => e = .returned (.bool (Act.nameB s)) ∧ w2 = w') := fun w' => name_any s w' hs
  have HF : Hid (∀ w', Calls Try.prog 50 #[.int .i64 n] w' fun e w2 => e = .returned (.bool (decide (0 ≤ n) && decide (n ≤ 1000000000000000))) ∧ w2 = w') := fun w' => fits_any n w'
  cases hb : Act.actB k s n with
  | true =>
    obtain ⟨⟨h1, h2⟩, h3, h4, h5⟩ := (Act.act_iff k s n).1 hb
    rw [Act.chk_yes hb]
    rw [h3] at HN
    rw [show (decide (0 ≤ n) && decide (n ≤ 1000000000000000)) = true by simp; omega] at HF
    have k1 : ¬ k < 1 := by omega
    have k2 : ¬ 4 < k := by omega
    have k3 : ¬ n < 1 := by omega
    have k4 : ¬ 1000000000000000 < n := by omega
    clear hb h3 hs
    go_enter Try.func56, Try.ntmps56
    go_wp2_with fail
    refine (HN.out _).mono ?_
    rintro e w1 ⟨rfl, hw1⟩; obtain rfl := hw1.symm
    go_wp2_with fail
    refine (HF.out _).mono ?_
    rintro e w1 ⟨rfl, hw1⟩; obtain rfl := hw1.symm
    go_wp2
    go_ret
    exact ⟨rfl, (by repeat (first | exact Gr.refl _ | refine Gr.alloc ?_ | refine Gr.drew ?_ | refine Gr.trans ?_ (by assumption)))⟩
  | false =>
    rw [Act.chk_no hb]
    have hno : ¬ ((1 ≤ k ∧ k ≤ 4) ∧ Act.nameB s = true ∧ 1 ≤ n ∧ n ≤ 1000000000000000) := fun h => by rw [(Act.act_iff k s n).2 h] at hb; cases hb
    clear hb hs
    by_cases h1 : 1 ≤ k
    · have k1 : ¬ k < 1 := by omega
      by_cases h2 : k ≤ 4
      · have k2 : ¬ 4 < k := by omega
        cases h3 : Act.nameB s with
        | false =>
          rw [h3] at HN
          clear hno h3
          go_enter Try.func56, Try.ntmps56
          go_wp2_with fail
          refine (HN.out _).mono ?_
          rintro e w1 ⟨rfl, hw1⟩; obtain rfl := hw1.symm
          go_wp2
          go_ret
          exact ⟨rfl, (by repeat (first | exact Gr.refl _ | refine Gr.alloc ?_ | refine Gr.drew ?_ | refine Gr.trans ?_ (by assumption)))⟩
        | true =>
          rw [h3] at HN
          by_cases h4 : n < 1
          · clear hno h3
            go_enter Try.func56, Try.ntmps56
            go_wp2_with fail
            refine (HN.out _).mono ?_
            rintro e w1 ⟨rfl, hw1⟩; obtain rfl := hw1.symm
            go_wp2
            go_ret
            exact ⟨rfl, (by repeat (first | exact Gr.refl _ | refine Gr.alloc ?_ | refine Gr.drew ?_ | refine Gr.trans ?_ (by assumption)))⟩
          · have k4 : 1000000000000000 < n := by
              by_cases h5 : 1000000000000000 < n
              · exact h5
              · exact absurd ⟨⟨h1, h2⟩, h3, by omega, by omega⟩ hno
            rw [show (decide (0 ≤ n) && decide (n ≤ 1000000000000000)) = false by simp; omega] at HF
            clear hno h3
            go_enter Try.func56, Try.ntmps56
            go_wp2_with fail
            refine (HN.out _).mono ?_
            rintro e w1 ⟨rfl, hw1⟩; obtain rfl := hw1.symm
            go_wp2_with fail
            refine (HF.out _).mono ?_
            rintro e w1 ⟨rfl, hw1⟩; obtain rfl := hw1.symm
            go_wp2
            go_ret
            exact ⟨rfl, (by repeat (first | exact Gr.refl _ | refine Gr.alloc ?_ | refine Gr.drew ?_ | refine Gr.trans ?_ (by assumption)))⟩
      · have k2 : 4 < k := by omega
        clear hno HN HF
        go_enter Try.func56, Try.ntmps56
        go_wp2
        go_ret
        exact ⟨rfl, (by repeat (first | exact Gr.refl _ | refine Gr.alloc ?_ | refine Gr.drew ?_ | refine Gr.trans ?_ (by assumption)))⟩
    · have k1 : k < 1 := by omega
      clear hno HN HF
      go_enter Try.func56, Try.ntmps56
      go_wp2
      go_ret
      exact ⟨rfl, (by repeat (first | exact Gr.refl _ | refine Gr.alloc ?_ | refine Gr.drew ?_ | refine Gr.trans ?_ (by assumption)))⟩

set_option maxHeartbeats 1000000 in
theorem refActCheck_any (k n : Int) (s : ByteArray) (w : World) (hs : s.size ≤ 9223372036854775807) :
    Calls Try.prog 44 #[.agg #[.int .i64 k, .string s, .int .i64 n]] w fun e w' => e = .returned (.int .i64 (Act.chkE k s n)) ∧ Gr w w' := by
  have HN : Hid (∀ w', Calls Try.prog 53 #[.string s] w' fun e w2 => e = .returned (.bool (Act.nameB s)) ∧ w2 = w') := fun w' => refName_any s w' hs
  cases hb : Act.actB k s n with
  | true =>
    obtain ⟨⟨h1, h2⟩, h3, h4, h5⟩ := (Act.act_iff k s n).1 hb
    rw [Act.chk_yes hb]
    rw [h3] at HN
    have k1 : ¬ k < 1 := by omega
    have k2 : ¬ 4 < k := by omega
    have k3 : ¬ n < 1 := by omega
    have k4 : ¬ 1000000000000000 < n := by omega
    clear hb h3 hs
    go_enter Try.func44, Try.ntmps44
    go_wp2_with fail
    refine (HN.out _).mono ?_
    rintro e w1 ⟨rfl, hw1⟩; obtain rfl := hw1.symm
    go_wp2
    go_ret
    exact ⟨rfl, (by repeat (first | exact Gr.refl _ | refine Gr.alloc ?_ | refine Gr.drew ?_ | refine Gr.trans ?_ (by assumption)))⟩
  | false =>
    rw [Act.chk_no hb]
    have hno : ¬ ((1 ≤ k ∧ k ≤ 4) ∧ Act.nameB s = true ∧ 1 ≤ n ∧ n ≤ 1000000000000000) := fun h => by rw [(Act.act_iff k s n).2 h] at hb; cases hb
    clear hb hs
    by_cases h1 : 1 ≤ k
    · have k1 : ¬ k < 1 := by omega
      by_cases h2 : k ≤ 4
      · have k2 : ¬ 4 < k := by omega
        cases h3 : Act.nameB s with
        | false =>
          rw [h3] at HN
          clear hno h3
          go_enter Try.func44, Try.ntmps44
          go_wp2_with fail
          refine (HN.out _).mono ?_
          rintro e w1 ⟨rfl, hw1⟩; obtain rfl := hw1.symm
          go_wp2
          go_ret
          exact ⟨rfl, (by repeat (first | exact Gr.refl _ | refine Gr.alloc ?_ | refine Gr.drew ?_ | refine Gr.trans ?_ (by assumption)))⟩
        | true =>
          rw [h3] at HN
          by_cases h4 : n < 1
          · clear hno h3
            go_enter Try.func44, Try.ntmps44
            go_wp2_with fail
            refine (HN.out _).mono ?_
            rintro e w1 ⟨rfl, hw1⟩; obtain rfl := hw1.symm
            go_wp2
            go_ret
            exact ⟨rfl, (by repeat (first | exact Gr.refl _ | refine Gr.alloc ?_ | refine Gr.drew ?_ | refine Gr.trans ?_ (by assumption)))⟩
          · have k4 : 1000000000000000 < n := by
              by_cases h5 : 1000000000000000 < n
              · exact h5
              · exact absurd ⟨⟨h1, h2⟩, h3, by omega, by omega⟩ hno
            clear hno h3
            go_enter Try.func44, Try.ntmps44
            go_wp2_with fail
            refine (HN.out _).mono ?_
            rintro e w1 ⟨rfl, hw1⟩; obtain rfl := hw1.symm
            go_wp2
            go_ret
            exact ⟨rfl, (by repeat (first | exact Gr.refl _ | refine Gr.alloc ?_ | refine Gr.drew ?_ | refine Gr.trans ?_ (by assumption)))⟩
      · have k2 : 4 < k := by omega
        clear hno HN
        go_enter Try.func44, Try.ntmps44
        go_wp2
        go_ret
        exact ⟨rfl, (by repeat (first | exact Gr.refl _ | refine Gr.alloc ?_ | refine Gr.drew ?_ | refine Gr.trans ?_ (by assumption)))⟩
    · have k1 : k < 1 := by omega
      clear hno HN
      go_enter Try.func44, Try.ntmps44
      go_wp2
      go_ret
      exact ⟨rfl, (by repeat (first | exact Gr.refl _ | refine Gr.alloc ?_ | refine Gr.drew ?_ | refine Gr.trans ?_ (by assumption)))⟩

set_option maxHeartbeats 2000000 in
theorem may_any (s : ByteArray) (a b c x y z : Int) (w : World) (hs : s.size ≤ 9223372036854775807) (hF1 : a ≤ 9223372036854775807) (hF2 : c ≤ 9223372036854775807) (hK1 : x ≤ 9223372036854775807) (hK2 : z ≤ 9223372036854775807) :
    Calls Try.prog 70 #[.agg #[.string s, .int .i64 a, .int .i64 b, .int .i64 c, .int .i64 x, .int .i64 y, .int .i64 z]] w fun e w' => e = .returned (.int .i64 (Act.mayE s a b c x y z)) ∧ Gr w w' := by
  have HN : Hid (∀ w', Calls Try.prog 49 #[.string s] w' fun e w2 => e = .returned (.bool (Act.nameB s)) ∧ w2 = w') := fun w' => name_any s w' hs
  have HF : Hid (∀ w', Calls Try.prog 93 #[.agg #[.int .i64 a, .int .i64 b, .int .i64 c]] w' fun e w2 => e = .returned (.int .i64 (Pot.chkE a b c)) ∧ Gr w' w2) := fun w' => check_any a b c w' hF2 hF1
  have HK : Hid (∀ w', Calls Try.prog 93 #[.agg #[.int .i64 x, .int .i64 y, .int .i64 z]] w' fun e w2 => e = .returned (.int .i64 (Pot.chkE x y z)) ∧ Gr w' w2) := fun w' => check_any x y z w' hK2 hK1
  unfold Act.mayE Act.accB
  unfold Pot.chkE at HF HK
  clear hs hF1 hF2 hK1 hK2
  generalize Act.nameB s = p at *
  generalize Pot.mayB a b c = q at *
  generalize Pot.mayB x y z = r at *
  cases p with
  | false =>
    go_enter Try.func70, Try.ntmps70
    go_wp2_with fail
    refine (HN.out _).mono ?_
    rintro e w1 ⟨rfl, hw1⟩; obtain rfl := hw1.symm
    go_wp2
    go_ret
    exact ⟨rfl, (by repeat (first | exact Gr.refl _ | refine Gr.alloc ?_ | refine Gr.drew ?_ | refine Gr.trans ?_ (by assumption)))⟩
  | true =>
    cases q with
    | false =>
      go_enter Try.func70, Try.ntmps70
      go_wp2_with fail
      refine (HN.out _).mono ?_
      rintro e w1 ⟨rfl, hw1⟩; obtain rfl := hw1.symm
      go_wp2_with fail
      refine (HF.out _).mono ?_
      rintro e w2 ⟨rfl, hg2⟩
      go_wp2
      go_ret
      exact ⟨rfl, (by repeat (first | exact Gr.refl _ | refine Gr.alloc ?_ | refine Gr.drew ?_ | refine Gr.trans ?_ (by assumption)))⟩
    | true =>
      cases r
      all_goals
        go_enter Try.func70, Try.ntmps70
        go_wp2_with fail
        refine (HN.out _).mono ?_
        rintro e w1 ⟨rfl, hw1⟩; obtain rfl := hw1.symm
        go_wp2_with fail
        refine (HF.out _).mono ?_
        rintro e w2 ⟨rfl, hg2⟩
        obtain ⟨b0, b1, b2, b3, b4, b5, b6⟩ := AccAt.cells ((AccAt.new w _ _ _ _ _ _ _ _ w.heap.size rfl).gr hg2)
        go_wp2_with fail
        refine (HK.out _).mono ?_
        rintro e w3 ⟨rfl, hg3⟩
        go_wp2
        go_ret
        exact ⟨rfl, (by repeat (first | exact Gr.refl _ | refine Gr.alloc ?_ | refine Gr.drew ?_ | refine Gr.trans ?_ (by assumption)))⟩

set_option maxHeartbeats 2000000 in
theorem refMay_any (s : ByteArray) (a b c x y z : Int) (w : World) (hs : s.size ≤ 9223372036854775807) :
    Calls Try.prog 45 #[.agg #[.string s, .int .i64 a, .int .i64 b, .int .i64 c, .int .i64 x, .int .i64 y, .int .i64 z]] w fun e w' => e = .returned (.int .i64 (Act.mayE s a b c x y z)) ∧ Gr w w' := by
  have HN : Hid (∀ w', Calls Try.prog 53 #[.string s] w' fun e w2 => e = .returned (.bool (Act.nameB s)) ∧ w2 = w') := fun w' => refName_any s w' hs
  have HF : Hid (∀ w', Calls Try.prog 73 #[.agg #[.int .i64 a, .int .i64 b, .int .i64 c]] w' fun e w2 => e = .returned (.int .i64 (Pot.chkE a b c)) ∧ Gr w' w2) := fun w' => refCheck_any a b c w' 
  have HK : Hid (∀ w', Calls Try.prog 73 #[.agg #[.int .i64 x, .int .i64 y, .int .i64 z]] w' fun e w2 => e = .returned (.int .i64 (Pot.chkE x y z)) ∧ Gr w' w2) := fun w' => refCheck_any x y z w' 
  unfold Act.mayE Act.accB
  unfold Pot.chkE at HF HK
  clear hs
  generalize Act.nameB s = p at *
  generalize Pot.mayB a b c = q at *
  generalize Pot.mayB x y z = r at *
  cases p with
  | false =>
    go_enter Try.func45, Try.ntmps45
    go_wp2_with fail
    refine (HN.out _).mono ?_
    rintro e w1 ⟨rfl, hw1⟩; obtain rfl := hw1.symm
    go_wp2
    go_ret
    exact ⟨rfl, (by repeat (first | exact Gr.refl _ | refine Gr.alloc ?_ | refine Gr.drew ?_ | refine Gr.trans ?_ (by assumption)))⟩
  | true =>
    cases q with
    | false =>
      go_enter Try.func45, Try.ntmps45
      go_wp2_with fail
      refine (HN.out _).mono ?_
      rintro e w1 ⟨rfl, hw1⟩; obtain rfl := hw1.symm
      go_wp2_with fail
      refine (HF.out _).mono ?_
      rintro e w2 ⟨rfl, hg2⟩
      go_wp2
      go_ret
      exact ⟨rfl, (by repeat (first | exact Gr.refl _ | refine Gr.alloc ?_ | refine Gr.drew ?_ | refine Gr.trans ?_ (by assumption)))⟩
    | true =>
      cases r
      all_goals
        go_enter Try.func45, Try.ntmps45
        go_wp2_with fail
        refine (HN.out _).mono ?_
        rintro e w1 ⟨rfl, hw1⟩; obtain rfl := hw1.symm
        go_wp2_with fail
        refine (HF.out _).mono ?_
        rintro e w2 ⟨rfl, hg2⟩
        obtain ⟨b0, b1, b2, b3, b4, b5, b6⟩ := AccAt.cells ((AccAt.new w _ _ _ _ _ _ _ _ w.heap.size rfl).gr hg2)
        go_wp2_with fail
        refine (HK.out _).mono ?_
        rintro e w3 ⟨rfl, hg3⟩
        go_wp2
        go_ret
        exact ⟨rfl, (by repeat (first | exact Gr.refl _ | refine Gr.alloc ?_ | refine Gr.drew ?_ | refine Gr.trans ?_ (by assumption)))⟩

end Go.Proofs.Ytiakajheoajepaa
