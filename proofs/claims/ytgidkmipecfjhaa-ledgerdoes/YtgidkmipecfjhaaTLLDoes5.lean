/- What the proof is made of, part 5. -/
import Derived.Test.YtgidkmipecfjhaaTLLDoes4
import Derived.Deep.RegionHeld3
import Derived.Laws.Cover1
namespace Go.Proofs.Ytgidkmipecfjhaa
open Go.RowKit
set_option maxHeartbeats 1000000 in
theorem actCheck_any (k n : Int) (s : ByteArray) (w : World) (hs : s.size ≤ 9223372036854775807) :
    Calls Try.prog 56 #[.agg #[.int .i64 k, .string s, .int .i64 n]] w fun e w' => e = .returned (.int .i64 (Act.chkE k s n)) ∧ Gr w w' := by
  have HN : Hid (∀ w', Calls Try.prog 49 #[.string s] w' fun e w2 => e = .returned (.bool (Act.nameB s)) ∧ w2 = w') := fun w' => name_any s w' hs
  have HF : Hid (∀ w', Calls Try.prog 50 #[.int .i64 n] w' fun e w2 => e = .returned (.bool (decide (0 ≤ n) && decide (n ≤ 1000000000000000))) ∧ w2 = w') := fun w' => fits_any n w'
  cases hb : Act.actB k s n with
  | true =>
    obtain ⟨⟨h1, h2⟩, h3, h4, h5⟩ := (Act.act_iff k s n).1 hb
    rw [Act.chk_yes hb]
    rw [h3] at HN
    rw [show (decide (0 ≤ n) && decide (n ≤ 1000000000000000)) = true by simp; omega] at HF
    have k1 : ¬ k < 1 := by omega
    have k2 : ¬ 4 < k := by omega
    have k3 : ¬ n < 1 := by omega
    have k4 : ¬ 1000000000000000 < n := by omega
    clear hb h3 hs
    go_enter Try.func56, Try.ntmps56
    go_wp2_with fail
    refine (HN.out _).mono ?_
    rintro e w1 ⟨rfl, hw1⟩; obtain rfl := hw1.symm
    go_wp2_with fail
    refine (HF.out _).mono ?_
    rintro e w1 ⟨rfl, hw1⟩; obtain rfl := hw1.symm
    go_wp2
    go_ret
    exact ⟨rfl, (by repeat (first | exact Gr.refl _ | refine Gr.alloc ?_ | refine Gr.drew ?_ | refine Gr.trans ?_ (by assumption)))⟩
  | false =>
    rw [Act.chk_no hb]
    have hno : ¬ ((1 ≤ k ∧ k ≤ 4) ∧ Act.nameB s = true ∧ 1 ≤ n ∧ n ≤ 1000000000000000) := fun h => by rw [(Act.act_iff k s n).2 h] at hb; cases hb
    clear hb hs
    by_cases h1 : 1 ≤ k
    · have k1 : ¬ k < 1 := by omega
      by_cases h2 : k ≤ 4
      · have k2 : ¬ 4 < k := by omega
        cases h3 : Act.nameB s with
        | false =>
          rw [h3] at HN
          clear hno h3
          go_enter Try.func56, Try.ntmps56
          go_wp2_with fail
          refine (HN.out _).mono ?_
          rintro e w1 ⟨rfl, hw1⟩; obtain rfl := hw1.symm
          go_wp2
          go_ret
          exact ⟨rfl, (by repeat (first | exact Gr.refl _ | refine Gr.alloc ?_ | refine Gr.drew ?_ | refine Gr.trans ?_ (by assumption)))⟩
        | true =>
          rw [h3] at HN
          by_cases h4 : n < 1
          · clear hno h3
            go_enter Try.func56, Try.ntmps56
            go_wp2_with fail
            refine (HN.out _).mono ?_
            rintro e w1 ⟨rfl, hw1⟩; obtain rfl := hw1.symm
            go_wp2
            go_ret
            exact ⟨rfl, (by repeat (first | exact Gr.refl _ | refine Gr.alloc ?_ | refine Gr.drew ?_ | refine Gr.trans ?_ (by assumption)))⟩
          · have k4 : 1000000000000000 < n := by
              by_cases h5 : 1000000000000000 < n
              · exact h5
              · exact absurd ⟨⟨h1, h2⟩, h3, by omega, by omega⟩ hno
            rw [show (decide (0 ≤ n) && decide (n ≤ 1000000000000000)) = false by simp; omega] at HF
            clear hno h3
            go_enter Try.func56, Try.ntmps56
            go_wp2_with fail
            refine (HN.out _).mono ?_
            rintro e w1 ⟨rfl, hw1⟩; obtain rfl := hw1.symm
            go_wp2_with fail
            refine (HF.out _).mono ?_
            rintro e w1 ⟨rfl, hw1⟩; obtain rfl := hw1.symm
            go_wp2
            go_ret
            exact ⟨rfl, (by repeat (first | exact Gr.refl _ | refine Gr.alloc ?_ | refine Gr.drew ?_ | refine Gr.trans ?_ (by assumption)))⟩
      · have k2 : 4 < k := by omega
        clear hno HN HF
        go_enter Try.func56, Try.ntmps56
        go_wp2
        go_ret
        exact ⟨rfl, (by repeat (first | exact Gr.refl _ | refine Gr.alloc ?_ | refine Gr.drew ?_ | refine Gr.trans ?_ (by assumption)))⟩
    · have k1 : k < 1 := by omega
      clear hno HN HF
      go_enter Try.func56, Try.ntmps56
      go_wp2
      go_ret
      exact ⟨rfl, (by repeat (first | exact Gr.refl _ | refine Gr.alloc ?_ | refine Gr.drew ?_ | refine Gr.trans ?_ (by assumption)))⟩
set_option maxHeartbeats 1000000 in
theorem refActCheck_any (k n : Int) (s : ByteArray) (w : World) (hs : s.size ≤ 9223372036854775807) :
    Calls Try.prog 44 #[.agg #[.int .i64 k, .string s, .int .i64 n]] w fun e w' => e = .returned (.int .i64 (Act.chkE k s n)) ∧ Gr w w' := by
  have HN : Hid (∀ w', Calls Try.prog 53 #[.string s] w' fun e w2 => e = .returned (.bool (Act.nameB s)) ∧ w2 = w') := fun w' => refName_any s w' hs
  cases hb : Act.actB k s n with
  | true =>
    obtain ⟨⟨h1, h2⟩, h3, h4, h5⟩ := (Act.act_iff k s n).1 hb
    rw [Act.chk_yes hb]
    rw [h3] at HN
    have k1 : ¬ k < 1 := by omega
    have k2 : ¬ 4 < k := by omega
    have k3 : ¬ n < 1 := by omega
    have k4 : ¬ 1000000000000000 < n := by omega
    clear hb h3 hs
    go_enter Try.func44, Try.ntmps44
    go_wp2_with fail
    refine (HN.out _).mono ?_
    rintro e w1 ⟨rfl, hw1⟩; obtain rfl := hw1.symm
    go_wp2
    go_ret
    exact ⟨rfl, (by repeat (first | exact Gr.refl _ | refine Gr.alloc ?_ | refine Gr.drew ?_ | refine Gr.trans ?_ (by assumption)))⟩
  | false =>
    rw [Act.chk_no hb]
    have hno : ¬ ((1 ≤ k ∧ k ≤ 4) ∧ Act.nameB s = true ∧ 1 ≤ n ∧ n ≤ 1000000000000000) := fun h => by rw [(Act.act_iff k s n).2 h] at hb; cases hb
    clear hb hs
    by_cases h1 : 1 ≤ k
    · have k1 : ¬ k < 1 := by omega
      by_cases h2 : k ≤ 4
      · have k2 : ¬ 4 < k := by omega
        cases h3 : Act.nameB s with
        | false =>
          rw [h3] at HN
          clear hno h3
          go_enter Try.func44, Try.ntmps44
          go_wp2_with fail
          refine (HN.out _).mono ?_
          rintro e w1 ⟨rfl, hw1⟩; obtain rfl := hw1.symm
          go_wp2
          go_ret
          exact ⟨rfl, (by repeat (first | exact Gr.refl _ | refine Gr.alloc ?_ | refine Gr.drew ?_ | refine Gr.trans ?_ (by assumption)))⟩
        | true =>
          rw [h3] at HN
          by_cases h4 : n < 1
          · clear hno h3
            go_enter Try.func44, Try.ntmps44
            go_wp2_with fail
            refine (HN.out _).mono ?_
            rintro e w1 ⟨rfl, hw1⟩; obtain rfl := hw1.symm
            go_wp2
            go_ret
            exact ⟨rfl, (by repeat (first | exact Gr.refl _ | refine Gr.alloc ?_ | refine Gr.drew ?_ | refine Gr.trans ?_ (by assumption)))⟩
          · have k4 : 1000000000000000 < n := by
              by_cases h5 : 1000000000000000 < n
              · exact h5
              · exact absurd ⟨⟨h1, h2⟩, h3, by omega, by omega⟩ hno
            clear hno h3
            go_enter Try.func44, Try.ntmps44
            go_wp2_with fail
            refine (HN.out _).mono ?_
            rintro e w1 ⟨rfl, hw1⟩; obtain rfl := hw1.symm
            go_wp2
            go_ret
            exact ⟨rfl, (by repeat (first | exact Gr.refl _ | refine Gr.alloc ?_ | refine Gr.drew ?_ | refine Gr.trans ?_ (by assumption)))⟩
      · have k2 : 4 < k := by omega
        clear hno HN
        go_enter Try.func44, Try.ntmps44
        go_wp2
        go_ret
        exact ⟨rfl, (by repeat (first | exact Gr.refl _ | refine Gr.alloc ?_ | refine Gr.drew ?_ | refine Gr.trans ?_ (by assumption)))⟩
    · have k1 : k < 1 := by omega
      clear hno HN
      go_enter Try.func44, Try.ntmps44
      go_wp2
      go_ret
      exact ⟨rfl, (by repeat (first | exact Gr.refl _ | refine Gr.alloc ?_ | refine Gr.drew ?_ | refine Gr.trans ?_ (by assumption)))⟩
set_option maxHeartbeats 2000000 in
theorem may_any (s : ByteArray) (a b c x y z : Int) (w : World) (hs : s.size ≤ 9223372036854775807) (hF1 : a ≤ 9223372036854775807) (hF2 : c ≤ 9223372036854775807) (hK1 : x ≤ 9223372036854775807) (hK2 : z ≤ 9223372036854775807) :
    Calls Try.prog 70 #[.agg #[.string s, .int .i64 a, .int .i64 b, .int .i64 c, .int .i64 x, .int .i64 y, .int .i64 z]] w fun e w' => e = .returned (.int .i64 (Act.mayE s a b c x y z)) ∧ Gr w w' := by
  have HN : Hid (∀ w', Calls Try.prog 49 #[.string s] w' fun e w2 => e = .returned (.bool (Act.nameB s)) ∧ w2 = w') := fun w' => name_any s w' hs
  have HF : Hid (∀ w', Calls Try.prog 93 #[.agg #[.int .i64 a, .int .i64 b, .int .i64 c]] w' fun e w2 => e = .returned (.int .i64 (Pot.chkE a b c)) ∧ Gr w' w2) := fun w' => check_any a b c w' hF2 hF1
  have HK : Hid (∀ w', Calls Try.prog 93 #[.agg #[.int .i64 x, .int .i64 y, .int .i64 z]] w' fun e w2 => e = .returned (.int .i64 (Pot.chkE x y z)) ∧ Gr w' w2) := fun w' => check_any x y z w' hK2 hK1
  unfold Act.mayE Act.accB
  unfold Pot.chkE at HF HK
  clear hs hF1 hF2 hK1 hK2
  generalize Act.nameB s = p at *
  generalize Pot.mayB a b c = q at *
  generalize Pot.mayB x y z = r at *
  cases p with
  | false =>
    go_enter Try.func70, Try.ntmps70
    go_wp2_with fail
    refine (HN.out _).mono ?_
    rintro e w1 ⟨rfl, hw1⟩; obtain rfl := hw1.symm
    go_wp2
    go_ret
    exact ⟨rfl, (by repeat (first | exact Gr.refl _ | refine Gr.alloc ?_ | refine Gr.drew ?_ | refine Gr.trans ?_ (by assumption)))⟩
  | true =>
    cases q with
    | false =>
      go_enter Try.func70, Try.ntmps70
      go_wp2_with fail
      refine (HN.out _).mono ?_
      rintro e w1 ⟨rfl, hw1⟩; obtain rfl := hw1.symm
      go_wp2_with fail
      refine (HF.out _).mono ?_
      rintro e w2 ⟨rfl, hg2⟩
      go_wp2
      go_ret
      exact ⟨rfl, (by repeat (first | exact Gr.refl _ | refine Gr.alloc ?_ | refine Gr.drew ?_ | refine Gr.trans ?_ (by assumption)))⟩
    | true =>
      cases r
      all_goals
        go_enter Try.func70, Try.ntmps70
        go_wp2_with fail
        refine (HN.out _).mono ?_
        rintro e w1 ⟨rfl, hw1⟩; obtain rfl := hw1.symm
        go_wp2_with fail
        refine (HF.out _).mono ?_
        rintro e w2 ⟨rfl, hg2⟩
        obtain ⟨b0, b1, b2, b3, b4, b5, b6⟩ := AccAt.cells ((AccAt.new w _ _ _ _ _ _ _ _ w.heap.size rfl).gr hg2)
        go_wp2_with fail
        refine (HK.out _).mono ?_
        rintro e w3 ⟨rfl, hg3⟩
        go_wp2
        go_ret
        exact ⟨rfl, (by repeat (first | exact Gr.refl _ | refine Gr.alloc ?_ | refine Gr.drew ?_ | refine Gr.trans ?_ (by assumption)))⟩
set_option maxHeartbeats 2000000 in
theorem refMay_any (s : ByteArray) (a b c x y z : Int) (w : World) (hs : s.size ≤ 9223372036854775807) :
    Calls Try.prog 45 #[.agg #[.string s, .int .i64 a, .int .i64 b, .int .i64 c, .int .i64 x, .int .i64 y, .int .i64 z]] w fun e w' => e = .returned (.int .i64 (Act.mayE s a b c x y z)) ∧ Gr w w' := by
  have HN : Hid (∀ w', Calls Try.prog 53 #[.string s] w' fun e w2 => e = .returned (.bool (Act.nameB s)) ∧ w2 = w') := fun w' => refName_any s w' hs
  have HF : Hid (∀ w', Calls Try.prog 73 #[.agg #[.int .i64 a, .int .i64 b, .int .i64 c]] w' fun e w2 => e = .returned (.int .i64 (Pot.chkE a b c)) ∧ Gr w' w2) := fun w' => refCheck_any a b c w' 
  have HK : Hid (∀ w', Calls Try.prog 73 #[.agg #[.int .i64 x, .int .i64 y, .int .i64 z]] w' fun e w2 => e = .returned (.int .i64 (Pot.chkE x y z)) ∧ Gr w' w2) := fun w' => refCheck_any x y z w' 
  unfold Act.mayE Act.accB
  unfold Pot.chkE at HF HK
  clear hs
  generalize Act.nameB s = p at *
  generalize Pot.mayB a b c = q at *
  generalize Pot.mayB x y z = r at *
  cases p with
  | false =>
    go_enter Try.func45, Try.ntmps45
    go_wp2_with fail
    refine (HN.out _).mono ?_
    rintro e w1 ⟨rfl, hw1⟩; obtain rfl := hw1.symm
    go_wp2
    go_ret
    exact ⟨rfl, (by repeat (first | exact Gr.refl _ | refine Gr.alloc ?_ | refine Gr.drew ?_ | refine Gr.trans ?_ (by assumption)))⟩
  | true =>
    cases q with
    | false =>
      go_enter Try.func45, Try.ntmps45
      go_wp2_with fail
      refine (HN.out _).mono ?_
      rintro e w1 ⟨rfl, hw1⟩; obtain rfl := hw1.symm
      go_wp2_with fail
      refine (HF.out _).mono ?_
      rintro e w2 ⟨rfl, hg2⟩
      go_wp2
      go_ret
      exact ⟨rfl, (by repeat (first | exact Gr.refl _ | refine Gr.alloc ?_ | refine Gr.drew ?_ | refine Gr.trans ?_ (by assumption)))⟩
    | true =>
      cases r
      all_goals
        go_enter Try.func45, Try.ntmps45
        go_wp2_with fail
        refine (HN.out _).mono ?_
        rintro e w1 ⟨rfl, hw1⟩; obtain rfl := hw1.symm
        go_wp2_with fail
        refine (HF.out _).mono ?_
        rintro e w2 ⟨rfl, hg2⟩
        obtain ⟨b0, b1, b2, b3, b4, b5, b6⟩ := AccAt.cells ((AccAt.new w _ _ _ _ _ _ _ _ w.heap.size rfl).gr hg2)
        go_wp2_with fail
        refine (HK.out _).mono ?_
        rintro e w3 ⟨rfl, hg3⟩
        go_wp2
        go_ret
        exact ⟨rfl, (by repeat (first | exact Gr.refl _ | refine Gr.alloc ?_ | refine Gr.drew ?_ | refine Gr.trans ?_ (by assumption)))⟩
end Go.Proofs.Ytgidkmipecfjhaa
namespace Go.Proofs.Ytgidkmipecfjhaa
variable {P : Program} {md : Region.Mode} {ops : Array Oper} {Q : Exit → Act → World → Prop} {S : World → Prop}
theorem take_yes (i d : Nat) {oi : Oper} {v : Value} {fuel : Nat} {listed : Array Bool} {a : Act} {w : World} (hi : ops[i]? = some oi) (hd : oi.dst = some d)
    (hs : Region.noSelect ops = true) (hf : Region.free md ops listed i = true) (hr : (Region.ready md ops listed).contains i = true)
    (hQ : ∀ c a w, Q (.panic c) (a.put (some d) v) w → Q (.panic c) a w) (hw : Region.wanted oi (yielded ops a.tmps) = true) (hy : ∀ w, S w → (execOp a.eval oi).run P w = .ok (.value v) w) (hS : S w)
    (h : wpAnyH P md ops Q S fuel (listed.setIfInBounds i true) (a.put (some d) v) w) : wpAnyH P md ops Q S (fuel + 1) listed a w := by
  rw [← hd] at hQ h
  exact wpAnyH_take hi hs hf hr hQ (Or.inl ⟨hw, hy⟩) hS h
theorem take_not (i d : Nat) {oi : Oper} {fuel : Nat} {listed : Array Bool} {a : Act} {w : World} (hi : ops[i]? = some oi) (hd : oi.dst = some d)
    (hs : Region.noSelect ops = true) (hf : Region.free md ops listed i = true) (hr : (Region.ready md ops listed).contains i = true)
    (hQ : ∀ c a w, Q (.panic c) (a.put (some d) undef) w → Q (.panic c) a w) (hw : Region.wanted oi (yielded ops a.tmps) = false) (hS : S w)
    (h : wpAnyH P md ops Q S fuel (listed.setIfInBounds i true) (a.put (some d) undef) w) : wpAnyH P md ops Q S (fuel + 1) listed a w := by
  rw [← hd] at hQ h
  exact wpAnyH_take hi hs hf hr hQ (Or.inr ⟨hw, rfl⟩) hS h
theorem ty (i d : Nat) {oi : Oper} {v : Value} {fuel : Nat} {listed : Array Bool} {a a' : Act} {w : World} (hS : S w) (h : wpAnyH P md ops Q S fuel (listed.setIfInBounds i true) a' w)
    (hi : ops[i]? = some oi := by rfl) (hd : oi.dst = some d := by rfl) (hs : Region.noSelect ops = true := by kernel_rfl) (hf : Region.free md ops listed i = true := by kernel_rfl) (hr : (Region.ready md ops listed).contains i = true := by kernel_rfl)
    (hQ : ∀ c a w, Q (.panic c) (a.put (some d) v) w → Q (.panic c) a w := by exact fun _ _ _ h => h) (hw : Region.wanted oi (yielded ops a.tmps) = true := by rfl)
    (hy : ∀ w, S w → (execOp a.eval oi).run P w = .ok (.value v) w := by (intro w hSw; (try dsimp only at hSw); go_simp; try with_reducible rfl))
    (ha : a.put (some d) v = a' := by (simp only [Act.put, List.setIfInBounds_toArray, List.set_cons_zero, List.set_cons_succ]; rfl)) : wpAnyH P md ops Q S (fuel + 1) listed a w := by
  subst ha
  exact take_yes i d hi hd hs hf hr hQ hw hy hS h
theorem tn (i d : Nat) {oi : Oper} {fuel : Nat} {listed : Array Bool} {a a' : Act} {w : World} (hS : S w) (h : wpAnyH P md ops Q S fuel (listed.setIfInBounds i true) a' w)
    (hi : ops[i]? = some oi := by rfl) (hd : oi.dst = some d := by rfl) (hs : Region.noSelect ops = true := by kernel_rfl) (hf : Region.free md ops listed i = true := by kernel_rfl) (hr : (Region.ready md ops listed).contains i = true := by kernel_rfl)
    (hQ : ∀ c a w, Q (.panic c) (a.put (some d) undef) w → Q (.panic c) a w := by exact fun _ _ _ h => h) (hw : Region.wanted oi (yielded ops a.tmps) = false := by rfl)
    (ha : a.put (some d) undef = a' := by (simp only [Act.put, List.setIfInBounds_toArray, List.set_cons_zero, List.set_cons_succ]; rfl)) : wpAnyH P md ops Q S (fuel + 1) listed a w := by
  subst ha
  exact take_not i d hi hd hs hf hr hQ hw hS h
end Go.Proofs.Ytgidkmipecfjhaa
namespace Go.Proofs.Ytgidkmipecfjhaa
open Go.RowKit
open Led (Acc Mk)
theorem hold7 {a b : World} (g : Gr a b) {q0 q1 q2 q3 q4 q5 q6 : Addr} {v0 v1 v2 v3 v4 v5 v6 : Value} (h0 : a.cell? q0 = some v0) (h1 : a.cell? q1 = some v1) (h2 : a.cell? q2 = some v2) (h3 : a.cell? q3 = some v3) (h4 : a.cell? q4 = some v4) (h5 : a.cell? q5 = some v5) (h6 : a.cell? q6 = some v6) :
    Gr a b ∧ b.cell? q0 = some v0 ∧ b.cell? q1 = some v1 ∧ b.cell? q2 = some v2 ∧ b.cell? q3 = some v3 ∧ b.cell? q4 = some v4 ∧ b.cell? q5 = some v5 ∧ b.cell? q6 = some v6 :=
  ⟨g, g.keep h0, g.keep h1, g.keep h2, g.keep h3, g.keep h4, g.keep h5, g.keep h6⟩
theorem hold8a {a b : World} (g : Gr a b) {q0 q1 q2 q3 q4 q5 q6 q7 : Addr} {v0 v1 v2 v3 v4 v5 v6 v7 : Value} (h0 : a.cell? q0 = some v0) (h1 : a.cell? q1 = some v1) (h2 : a.cell? q2 = some v2) (h3 : a.cell? q3 = some v3) (h4 : a.cell? q4 = some v4) (h5 : a.cell? q5 = some v5) (h6 : a.cell? q6 = some v6) (h7 : a.cell? q7 = some v7) :
    Gr a b ∧ b.cell? q0 = some v0 ∧ b.cell? q1 = some v1 ∧ b.cell? q2 = some v2 ∧ b.cell? q3 = some v3 ∧ b.cell? q4 = some v4 ∧ b.cell? q5 = some v5 ∧ b.cell? q6 = some v6 ∧ b.cell? q7 = some v7 :=
  ⟨g, g.keep h0, g.keep h1, g.keep h2, g.keep h3, g.keep h4, g.keep h5, g.keep h6, g.keep h7⟩
set_option maxHeartbeats 4000000 in
set_option maxRecDepth 100000 in
theorem accs_any (A : List Acc) (ad : Option Addr) (cap : Nat) (w : World) (hA : AccsAt w ad A) (hr : ∀ x ∈ A, inA x) (hn : A.length ≤ 9223372036854775807) :
    Calls Try.prog 39 #[.slice ad A.length cap] w fun e w' => e = .returned (.bool (Led.accsB A)) ∧ Gr w w' := by
  have HL : Hid (AccsAt w ad A) := hA
  have HR : Hid (∀ x ∈ A, inA x) := hr
  clear hA hr
  by_cases hlen : (12 : Int) < (A.length : Int)
  · have HF : Hid (Led.accsB A = false) := by
      show _ = _
      unfold Led.accsB
      rw [decide_eq_false (by omega)]; rfl
    have hlen2 : 12 < A.length := by omega
    go_enter Try.func39, Try.ntmps39
    go_wp2
    go_ret
    exact ⟨by rw [HF.out]; rfl, (by repeat (first | exact Gr.refl _ | refine Gr.alloc ?_ | refine Gr.drew ?_ | refine Gr.trans ?_ (by assumption)))⟩
  · have hlen2 : ¬ 12 < A.length := by omega
    go_enter Try.func39, Try.ntmps39
    go_wp2
    go_loopw [10] (fun s10 wr => ∃ k : Nat, s10 = .int .i64 k ∧ k ≤ A.length ∧ (∀ j (h : j < A.length), j < k → Led.accOk A[j] = true) ∧ (∀ j (h : j + 1 < A.length), j + 1 < k → Led.lt A[j].s A[j + 1].s = true) ∧ Gr w wr) (fun s10 _ => A.length - (intOf s10).toNat)
    case atStart => exact ⟨0, rfl, Nat.zero_le _, fun j _ h => absurd h (Nat.not_lt_zero _), fun j _ h => absurd h (Nat.not_lt_zero _), Gr.refl _⟩
    case round =>
      obtain ⟨k, rfl, hk, hok, hup, hg⟩ := hrel
      have HG : Hid (Gr w wr) := hg
      have HK : Hid (∀ j (h : j < A.length), j < k → Led.accOk A[j] = true) := hok
      have HU : Hid (∀ j (h : j + 1 < A.length), j + 1 < k → Led.lt A[j].s A[j + 1].s = true) := hup
      clear hg hok hup
      by_cases hlt : k < A.length
      · obtain ⟨b, off, rfl, hb, d0, d1, d2, d3, d4, d5, d6⟩ := (AccsAt.at HL.out k hlt)
        have d0 := HG.out.keep d0
        have d1 := HG.out.keep d1
        have d2 := HG.out.keep d2
        have d3 := HG.out.keep d3
        have d4 := HG.out.keep d4
        have d5 := HG.out.keep d5
        have d6 := HG.out.keep d6
        have hbw : b < wr.heap.size := Nat.lt_of_lt_of_le hb HG.out.size
        have hki : (k : Int) < (A.length : Int) := by omega
        obtain ⟨r0, ⟨r1, _, r3⟩, r4, _, r6⟩ := HR.out A[k] (List.getElem_mem hlt)
        have hM := fun w' => may_any A[k].s A[k].a A[k].b A[k].c A[k].x A[k].y A[k].z w' r0 r1.2 r3.2 r4.2 r6.2
        clear r0 r1 r3 r4 r6
        have HX : Hid (∃ x, x = A[k]) := ⟨_, rfl⟩
        cases hacc : Led.accOk A[k] with
        | false =>
          have HF : Hid (Led.accsB A = false) := by
            show _ = _
            unfold Led.accsB
            have : A.all Led.accOk = false := by rw [List.all_eq_false]; exact ⟨A[k], List.getElem_mem hlt, by rw [hacc]; simp⟩
            rw [this]; simp
          have hM2 : ∀ w', Calls Try.prog 70 #[.agg #[.string A[k].s, .int .i64 A[k].a, .int .i64 A[k].b, .int .i64 A[k].c, .int .i64 A[k].x, .int .i64 A[k].y, .int .i64 A[k].z]] w' fun e w2 => e = .returned (.int .i64 2) ∧ Gr w' w2 := fun w' => by have := hM w'; rw [Act.may_no hacc] at this; exact this
          clear hM hacc HX
          generalize A[k] = x at *
          have HM : Hid (∀ w', Calls Try.prog 70 #[.agg #[.string x.s, .int .i64 x.a, .int .i64 x.b, .int .i64 x.c, .int .i64 x.x, .int .i64 x.y, .int .i64 x.z]] w' fun e w2 => e = .returned (.int .i64 2) ∧ Gr w' w2) := hM2
          clear hM2
          go_wp2_with fail
          have X := AccAt.new wr (.string x.s) (.int .i64 x.a) (.int .i64 x.b) (.int .i64 x.c) (.int .i64 x.x) (.int .i64 x.y) (.int .i64 x.z) 31 _ rfl
          obtain ⟨x0, x1, x2, x3, x4, x5, x6⟩ := X.cells
          obtain ⟨W, hW⟩ : ∃ W, W = wr.alloc (.cells #[.string x.s, .int .i64 x.a, .int .i64 x.b, .int .i64 x.c, .int .i64 x.x, .int .i64 x.y, .int .i64 x.z] 31) := ⟨_, rfl⟩
          have HGW : Hid (Gr w W) := by show Gr _ _; rw [hW]; exact HG.out.alloc
          rw [← hW] at x0 x1 x2 x3 x4 x5 x6 ⊢
          clear X hW d0 d1 d2 d3 d4 d5 d6
          refine wp_region_held_drew (S := (fun w' => Gr W w' ∧ w'.cell? ⟨wr.heap.size, 0, none⟩ = some (.string x.s) ∧ w'.cell? ⟨wr.heap.size, 1, none⟩ = some (.int .i64 x.a) ∧ w'.cell? ⟨wr.heap.size, 2, none⟩ = some (.int .i64 x.b) ∧ w'.cell? ⟨wr.heap.size, 3, none⟩ = some (.int .i64 x.c) ∧ w'.cell? ⟨wr.heap.size, 4, none⟩ = some (.int .i64 x.x) ∧ w'.cell? ⟨wr.heap.size, 5, none⟩ = some (.int .i64 x.y) ∧ w'.cell? ⟨wr.heap.size, 6, none⟩ = some (.int .i64 x.z))) (by kernel_rfl) (by exact hold7 (by (with_reducible repeat' (first | exact Gr.refl _ | refine Gr.set ?_ _ ?_ _ | refine Gr.alloc ?_ | refine Gr.drew ?_ | refine Gr.trans ?_ (by assumption))) <;> (first | (simp; done) | (simp; omega) | omega)) x0 x1 x2 x3 x4 x5 x6) (fun hHeld => ?_)
          refine ty 0 15 hHeld ?_
          refine wpAnyH_ready (rs := [1]) (by kernel_rfl) (by simp) (AllReadyH.cons rfl (fun K hK => ?_) AllReadyH.nil)
          go_simp
          (go_at_call 70; refine (HM.out _).mono ?_; rintro e wn ⟨rfl, hgn⟩)
          (try go_wp2_with fail)
          refine hK.out _ _ (by exact hold7 (by (with_reducible repeat' (first | exact Gr.refl _ | refine Gr.set ?_ _ ?_ _ | refine Gr.alloc ?_ | refine Gr.drew ?_ | refine Gr.trans ?_ (by assumption))) <;> (first | (simp; done) | (simp; omega) | omega)) x0 x1 x2 x3 x4 x5 x6) (fun hHeldN => ?_)
          clear hHeld hK K
          have hHeld := hHeldN
          clear hHeldN
          refine ty 2 17 hHeld ?_
          refine ty 3 18 hHeld ?_
          refine tn 4 19 hHeld ?_
          refine tn 5 20 hHeld ?_
          refine tn 6 21 hHeld ?_
          refine tn 7 22 hHeld ?_
          refine tn 8 23 hHeld ?_
          refine tn 9 24 hHeld ?_
          refine tn 10 25 hHeld ?_
          refine tn 11 26 hHeld ?_
          refine tn 12 27 hHeld ?_
          refine tn 13 28 hHeld ?_
          refine tn 14 29 hHeld ?_
          refine tn 15 30 hHeld ?_
          refine tn 16 31 hHeld ?_
          refine ty 17 32 hHeld ?_
          refine wpAnyH_done (by kernel_rfl) ?_ _
          all_goals
            go_wp2
            go_ret
            exact ⟨by rw [HF.out]; rfl, HGW.out.trans (by (with_reducible repeat' (first | exact Gr.refl _ | refine Gr.set ?_ _ ?_ _ | refine Gr.alloc ?_ | refine Gr.drew ?_ | refine Gr.trans ?_ (by assumption))) <;> (first | (simp; done) | (simp; omega) | omega))⟩
        | true =>
          have HKX : Hid (Led.accOk A[k] = true) := hacc
          have hM2 : ∀ w', Calls Try.prog 70 #[.agg #[.string A[k].s, .int .i64 A[k].a, .int .i64 A[k].b, .int .i64 A[k].c, .int .i64 A[k].x, .int .i64 A[k].y, .int .i64 A[k].z]] w' fun e w2 => e = .returned (.int .i64 0) ∧ Gr w' w2 := fun w' => by have := hM w'; rw [Act.may_yes hacc] at this; exact this
          clear hM hacc HX
          by_cases hk0 : k = 0
          · have hz1 : decide ((0 : Int) < (k : Int)) = false := by simp; omega
            have hz2 : decide (0 < k) = false := by simp; omega
            have HK0 : Hid (k = 0) := hk0
            clear hk0
            generalize A[k] = x at d0 d1 d2 d3 d4 d5 d6 hM2
            have HM : Hid (∀ w', Calls Try.prog 70 #[.agg #[.string x.s, .int .i64 x.a, .int .i64 x.b, .int .i64 x.c, .int .i64 x.x, .int .i64 x.y, .int .i64 x.z]] w' fun e w2 => e = .returned (.int .i64 0) ∧ Gr w' w2) := hM2
            clear hM2
            go_wp2_with fail
            have X := AccAt.new wr (.string x.s) (.int .i64 x.a) (.int .i64 x.b) (.int .i64 x.c) (.int .i64 x.x) (.int .i64 x.y) (.int .i64 x.z) 31 _ rfl
            obtain ⟨x0, x1, x2, x3, x4, x5, x6⟩ := X.cells
            obtain ⟨W, hW⟩ : ∃ W, W = wr.alloc (.cells #[.string x.s, .int .i64 x.a, .int .i64 x.b, .int .i64 x.c, .int .i64 x.x, .int .i64 x.y, .int .i64 x.z] 31) := ⟨_, rfl⟩
            have HGW : Hid (Gr w W) := by show Gr _ _; rw [hW]; exact HG.out.alloc
            rw [← hW] at x0 x1 x2 x3 x4 x5 x6 ⊢
            clear X hW d0 d1 d2 d3 d4 d5 d6
            refine wp_region_held_drew (S := (fun w' => Gr W w' ∧ w'.cell? ⟨wr.heap.size, 0, none⟩ = some (.string x.s) ∧ w'.cell? ⟨wr.heap.size, 1, none⟩ = some (.int .i64 x.a) ∧ w'.cell? ⟨wr.heap.size, 2, none⟩ = some (.int .i64 x.b) ∧ w'.cell? ⟨wr.heap.size, 3, none⟩ = some (.int .i64 x.c) ∧ w'.cell? ⟨wr.heap.size, 4, none⟩ = some (.int .i64 x.x) ∧ w'.cell? ⟨wr.heap.size, 5, none⟩ = some (.int .i64 x.y) ∧ w'.cell? ⟨wr.heap.size, 6, none⟩ = some (.int .i64 x.z))) (by kernel_rfl) (by exact hold7 (by (with_reducible repeat' (first | exact Gr.refl _ | refine Gr.set ?_ _ ?_ _ | refine Gr.alloc ?_ | refine Gr.drew ?_ | refine Gr.trans ?_ (by assumption))) <;> (first | (simp; done) | (simp; omega) | omega)) x0 x1 x2 x3 x4 x5 x6) (fun hHeld => ?_)
            refine ty 0 15 hHeld ?_
            refine wpAnyH_ready (rs := [1]) (by kernel_rfl) (by simp) (AllReadyH.cons rfl (fun K hK => ?_) AllReadyH.nil)
            go_simp
            (go_at_call 70; refine (HM.out _).mono ?_; rintro e wn ⟨rfl, hgn⟩)
            (try go_wp2_with fail)
            refine hK.out _ _ (by exact hold7 (by (with_reducible repeat' (first | exact Gr.refl _ | refine Gr.set ?_ _ ?_ _ | refine Gr.alloc ?_ | refine Gr.drew ?_ | refine Gr.trans ?_ (by assumption))) <;> (first | (simp; done) | (simp; omega) | omega)) x0 x1 x2 x3 x4 x5 x6) (fun hHeldN => ?_)
            clear hHeld hK K
            have hHeld := hHeldN
            clear hHeldN
            refine ty 2 17 hHeld ?_
            refine ty 3 18 hHeld ?_
            refine ty 4 19 hHeld ?_
            refine ty 5 20 hHeld ?_
            refine ty 6 21 hHeld ?_
            refine tn 7 22 hHeld ?_
            refine tn 8 23 hHeld ?_
            refine tn 9 24 hHeld ?_
            refine tn 10 25 hHeld ?_
            refine tn 11 26 hHeld ?_
            refine tn 12 27 hHeld ?_
            refine tn 13 28 hHeld ?_
            refine tn 14 29 hHeld ?_
            refine tn 15 30 hHeld ?_
            refine ty 16 31 hHeld ?_
            refine ty 17 32 hHeld ?_
            refine wpAnyH_done (by kernel_rfl) ?_ _
            go_wp2
            go_roundw
            case rel =>
              have hk0 := HK0.out
              exact ⟨k + 1, by go_num, by omega, (fun j h hj => by
                by_cases e : j = k
                · subst e; exact HKX.out
                · exact HK.out j h (by omega)), (fun j h hj => by omega), HGW.out.trans (by (with_reducible repeat' (first | exact Gr.refl _ | refine Gr.set ?_ _ ?_ _ | refine Gr.alloc ?_ | refine Gr.drew ?_ | refine Gr.trans ?_ (by assumption))) <;> (first | (simp; done) | (simp; omega) | omega))⟩
            case measure => simp [intOf]; omega
          · obtain ⟨k', hk'⟩ : ∃ k', k = k' + 1 := ⟨k - 1, by omega⟩
            have hlt' : k' < A.length := by omega
            have hz1 : decide ((0 : Int) < (k : Int)) = true := by simp; omega
            have hz2 : decide (0 < k) = true := by simp; omega
            have hz3 : IntKind.i64.wrap (k' : Int) = (k' : Int) := by rw [IntKind.wrap_i64]; omega
            have hz4 : (k : Int) - 1 = (k' : Int) := by omega
            have hz5 : (k' : Int) < (A.length : Int) := by omega
            obtain ⟨b', off', e', _, c0, _⟩ := (AccsAt.at HL.out k' hlt')
            cases e'
            have c0 := HG.out.keep c0
            have HLT0 : Hid (Led.lt A[k'].s A[k].s = true → ∀ (j : Nat) (h : j + 1 < A.length), j + 1 = k → Led.lt A[j].s A[j + 1].s = true) := by
              intro hl j h e
              subst e
              obtain rfl : k' = j := by omega
              exact hl
            have HLF : Hid (Led.lt A[k'].s A[k].s = false → Led.accsB A = false) := by
              intro hl
              cases hb : Led.accsB A with
              | false => rfl
              | true =>
                obtain ⟨_, _, h3⟩ := (Led.accs_iff A).1 hb
                have := (Led.up_iff _).1 h3 k' (by rw [Led.nm_len]; omega)
                rw [Led.nm_get A k' (by omega), Led.nm_get A (k' + 1) (by omega)] at this
                subst hk'
                rw [this] at hl; cases hl
            have hbl : Op.bytesLess A[k'].s.toList A[k].s.toList = Led.lt A[k'].s A[k].s := rfl
            generalize A[k'].s = y at c0 HLT0 HLF hbl
            generalize A[k] = x at d0 d1 d2 d3 d4 d5 d6 hM2 HLT0 HLF hbl
            have HM : Hid (∀ w', Calls Try.prog 70 #[.agg #[.string x.s, .int .i64 x.a, .int .i64 x.b, .int .i64 x.c, .int .i64 x.x, .int .i64 x.y, .int .i64 x.z]] w' fun e w2 => e = .returned (.int .i64 0) ∧ Gr w' w2) := hM2
            clear hM2 hk0
            cases hl : Led.lt y x.s with
            | false =>
              rw [hl] at hbl
              have HF : Hid (Led.accsB A = false) := HLF.out hl
              clear HLF HLT0 hl hk'
              go_wp2_with fail
              have X := AccAt.new wr (.string x.s) (.int .i64 x.a) (.int .i64 x.b) (.int .i64 x.c) (.int .i64 x.x) (.int .i64 x.y) (.int .i64 x.z) 31 _ rfl
              obtain ⟨x0, x1, x2, x3, x4, x5, x6⟩ := X.cells
              obtain ⟨W, hW⟩ : ∃ W, W = wr.alloc (.cells #[.string x.s, .int .i64 x.a, .int .i64 x.b, .int .i64 x.c, .int .i64 x.x, .int .i64 x.y, .int .i64 x.z] 31) := ⟨_, rfl⟩
              have HGW : Hid (Gr w W) := by show Gr _ _; rw [hW]; exact HG.out.alloc
              have c0 := (Gr.refl wr).alloc (o := .cells #[.string x.s, .int .i64 x.a, .int .i64 x.b, .int .i64 x.c, .int .i64 x.x, .int .i64 x.y, .int .i64 x.z] 31) |>.keep c0
              rw [← hW] at x0 x1 x2 x3 x4 x5 x6 c0 ⊢
              clear X hW d0 d1 d2 d3 d4 d5 d6
              refine wp_region_held_drew (S := (fun w' => Gr W w' ∧ w'.cell? ⟨wr.heap.size, 0, none⟩ = some (.string x.s) ∧ w'.cell? ⟨wr.heap.size, 1, none⟩ = some (.int .i64 x.a) ∧ w'.cell? ⟨wr.heap.size, 2, none⟩ = some (.int .i64 x.b) ∧ w'.cell? ⟨wr.heap.size, 3, none⟩ = some (.int .i64 x.c) ∧ w'.cell? ⟨wr.heap.size, 4, none⟩ = some (.int .i64 x.x) ∧ w'.cell? ⟨wr.heap.size, 5, none⟩ = some (.int .i64 x.y) ∧ w'.cell? ⟨wr.heap.size, 6, none⟩ = some (.int .i64 x.z) ∧ w'.cell? ⟨b, off + k' * 7, none⟩ = some (.string y))) (by kernel_rfl) (by exact hold8a (by (with_reducible repeat' (first | exact Gr.refl _ | refine Gr.set ?_ _ ?_ _ | refine Gr.alloc ?_ | refine Gr.drew ?_ | refine Gr.trans ?_ (by assumption))) <;> (first | (simp; done) | (simp; omega) | omega)) x0 x1 x2 x3 x4 x5 x6 c0) (fun hHeld => ?_)
              refine ty 0 15 hHeld ?_
              refine wpAnyH_ready (rs := [1]) (by kernel_rfl) (by simp) (AllReadyH.cons rfl (fun K hK => ?_) AllReadyH.nil)
              go_simp
              (go_at_call 70; refine (HM.out _).mono ?_; rintro e wn ⟨rfl, hgn⟩)
              (try go_wp2_with fail)
              refine hK.out _ _ (by exact hold8a (by (with_reducible repeat' (first | exact Gr.refl _ | refine Gr.set ?_ _ ?_ _ | refine Gr.alloc ?_ | refine Gr.drew ?_ | refine Gr.trans ?_ (by assumption))) <;> (first | (simp; done) | (simp; omega) | omega)) x0 x1 x2 x3 x4 x5 x6 c0) (fun hHeldN => ?_)
              clear hHeld hK K
              have hHeld := hHeldN
              clear hHeldN
              refine ty 2 17 hHeld ?_
              refine ty 3 18 hHeld ?_
              refine ty 4 19 hHeld ?_
              refine ty 5 20 hHeld ?_
              refine ty 6 21 hHeld ?_
              refine ty 7 22 hHeld ?_
              refine ty 8 23 hHeld ?_
              refine ty 9 24 hHeld ?_
              refine ty 10 25 hHeld ?_
              refine ty 11 26 hHeld ?_
              refine ty 12 27 hHeld ?_
              refine ty 13 28 hHeld ?_
              refine ty 14 29 hHeld ?_
              refine ty 15 30 hHeld ?_
              refine ty 16 31 hHeld ?_
              refine ty 17 32 hHeld ?_
              refine wpAnyH_done (by kernel_rfl) ?_ _
              go_wp2
              go_ret
              exact ⟨by rw [HF.out]; rfl, HGW.out.trans (by (with_reducible repeat' (first | exact Gr.refl _ | refine Gr.set ?_ _ ?_ _ | refine Gr.alloc ?_ | refine Gr.drew ?_ | refine Gr.trans ?_ (by assumption))) <;> (first | (simp; done) | (simp; omega) | omega))⟩
            | true =>
              rw [hl] at hbl
              have HLT : Hid (∀ (j : Nat) (h : j + 1 < A.length), j + 1 = k → Led.lt A[j].s A[j + 1].s = true) := HLT0.out hl
              clear HLF HLT0 hl hk'
              go_wp2_with fail
              have X := AccAt.new wr (.string x.s) (.int .i64 x.a) (.int .i64 x.b) (.int .i64 x.c) (.int .i64 x.x) (.int .i64 x.y) (.int .i64 x.z) 31 _ rfl
              obtain ⟨x0, x1, x2, x3, x4, x5, x6⟩ := X.cells
              obtain ⟨W, hW⟩ : ∃ W, W = wr.alloc (.cells #[.string x.s, .int .i64 x.a, .int .i64 x.b, .int .i64 x.c, .int .i64 x.x, .int .i64 x.y, .int .i64 x.z] 31) := ⟨_, rfl⟩
              have HGW : Hid (Gr w W) := by show Gr _ _; rw [hW]; exact HG.out.alloc
              have c0 := (Gr.refl wr).alloc (o := .cells #[.string x.s, .int .i64 x.a, .int .i64 x.b, .int .i64 x.c, .int .i64 x.x, .int .i64 x.y, .int .i64 x.z] 31) |>.keep c0
              rw [← hW] at x0 x1 x2 x3 x4 x5 x6 c0 ⊢
              clear X hW d0 d1 d2 d3 d4 d5 d6
              refine wp_region_held_drew (S := (fun w' => Gr W w' ∧ w'.cell? ⟨wr.heap.size, 0, none⟩ = some (.string x.s) ∧ w'.cell? ⟨wr.heap.size, 1, none⟩ = some (.int .i64 x.a) ∧ w'.cell? ⟨wr.heap.size, 2, none⟩ = some (.int .i64 x.b) ∧ w'.cell? ⟨wr.heap.size, 3, none⟩ = some (.int .i64 x.c) ∧ w'.cell? ⟨wr.heap.size, 4, none⟩ = some (.int .i64 x.x) ∧ w'.cell? ⟨wr.heap.size, 5, none⟩ = some (.int .i64 x.y) ∧ w'.cell? ⟨wr.heap.size, 6, none⟩ = some (.int .i64 x.z) ∧ w'.cell? ⟨b, off + k' * 7, none⟩ = some (.string y))) (by kernel_rfl) (by exact hold8a (by (with_reducible repeat' (first | exact Gr.refl _ | refine Gr.set ?_ _ ?_ _ | refine Gr.alloc ?_ | refine Gr.drew ?_ | refine Gr.trans ?_ (by assumption))) <;> (first | (simp; done) | (simp; omega) | omega)) x0 x1 x2 x3 x4 x5 x6 c0) (fun hHeld => ?_)
              refine ty 0 15 hHeld ?_
              refine wpAnyH_ready (rs := [1]) (by kernel_rfl) (by simp) (AllReadyH.cons rfl (fun K hK => ?_) AllReadyH.nil)
              go_simp
              (go_at_call 70; refine (HM.out _).mono ?_; rintro e wn ⟨rfl, hgn⟩)
              (try go_wp2_with fail)
              refine hK.out _ _ (by exact hold8a (by (with_reducible repeat' (first | exact Gr.refl _ | refine Gr.set ?_ _ ?_ _ | refine Gr.alloc ?_ | refine Gr.drew ?_ | refine Gr.trans ?_ (by assumption))) <;> (first | (simp; done) | (simp; omega) | omega)) x0 x1 x2 x3 x4 x5 x6 c0) (fun hHeldN => ?_)
              clear hHeld hK K
              have hHeld := hHeldN
              clear hHeldN
              refine ty 2 17 hHeld ?_
              refine ty 3 18 hHeld ?_
              refine ty 4 19 hHeld ?_
              refine ty 5 20 hHeld ?_
              refine ty 6 21 hHeld ?_
              refine ty 7 22 hHeld ?_
              refine ty 8 23 hHeld ?_
              refine ty 9 24 hHeld ?_
              refine ty 10 25 hHeld ?_
              refine ty 11 26 hHeld ?_
              refine ty 12 27 hHeld ?_
              refine ty 13 28 hHeld ?_
              refine ty 14 29 hHeld ?_
              refine ty 15 30 hHeld ?_
              refine ty 16 31 hHeld ?_
              refine ty 17 32 hHeld ?_
              refine wpAnyH_done (by kernel_rfl) ?_ _
              go_wp2
              go_roundw
              case rel =>
                exact ⟨k + 1, by go_num, by omega, (fun j h hj => by
                  by_cases e : j = k
                  · subst e; exact HKX.out
                  · exact HK.out j h (by omega)), (fun j h hj => by
                  by_cases e : j + 1 = k
                  · exact HLT.out j h e
                  · exact HU.out j h (by omega)), HGW.out.trans (by (with_reducible repeat' (first | exact Gr.refl _ | refine Gr.set ?_ _ ?_ _ | refine Gr.alloc ?_ | refine Gr.drew ?_ | refine Gr.trans ?_ (by assumption))) <;> (first | (simp; done) | (simp; omega) | omega))⟩
              case measure => simp [intOf]; omega
      · have hge : ¬ ((k : Int) < (A.length : Int)) := by omega
        obtain rfl : k = A.length := by omega
        have HF : Hid (Led.accsB A = true) := by
          refine (Led.accs_iff A).2 ⟨by omega, ?_, (Led.up_iff _).2 ?_⟩
          · intro x hx
            obtain ⟨j, hj, rfl⟩ := List.getElem_of_mem hx
            exact HK.out j hj hj
          · intro j hj
            rw [Led.nm_len] at hj
            rw [Led.nm_get A j (by omega), Led.nm_get A (j + 1) hj]
            exact HU.out j hj hj
        go_wp2
        go_ret
        exact ⟨by rw [HF.out]; rfl, HG.out⟩
end Go.Proofs.Ytgidkmipecfjhaa
namespace Go.Proofs.Ytgidkmipecfjhaa
open Go.RowKit
open Led (Acc Mk)
theorem eqE (s : ByteArray) : (s.toList == ([] : List UInt8)) = decide (s.size = 0) := by
  rw [show s.toList = s.data.toList from ByteArray.toList_eq s]
  have hl : s.data.toList.length = s.size := by simp
  cases h : s.data.toList with
  | nil => rw [h] at hl; simp at hl; rw [← hl]; rfl
  | cons b t => rw [h] at hl; simp at hl; rw [decide_eq_false (by omega)]; rfl
set_option maxHeartbeats 400000 in
theorem isKey_any (s : ByteArray) (w : World) (hs : s.size ≤ 9223372036854775807) : Calls Try.prog 55 #[.string s] w fun e w' => e = .returned (.bool (Led.keyB s)) ∧ w' = w := by
  have h0 := eqE s
  have h00 : (⟨#[]⟩ : ByteArray).toList = [] := ByteArray.toList_eq _
  unfold Led.keyB
  by_cases h1 : s.size = 0
  · rw [decide_eq_true h1] at h0
    rw [decide_eq_false (by omega)]
    go_enter Try.func55, Try.ntmps55
    go_wp2
    go_ret
    exact ⟨rfl, rfl⟩
  · rw [decide_eq_false h1] at h0
    rw [decide_eq_true (by omega : 0 < s.size)]
    by_cases h2 : s.size ≤ 100
    · have h3 : (s.size : Int) ≤ 100 := by omega
      rw [decide_eq_true h2]
      go_enter Try.func55, Try.ntmps55
      go_wp2
      go_ret
      exact ⟨rfl, rfl⟩
    · have h3 : ¬ (s.size : Int) ≤ 100 := by omega
      rw [decide_eq_false h2]
      go_enter Try.func55, Try.ntmps55
      go_wp2
      go_ret
      exact ⟨rfl, rfl⟩
structure FiveAt (w : World) (g : Nat) (a b c d e : Value) : Prop where
  c0 : w.cell? ⟨g, 0, none⟩ = some a
  c1 : w.cell? ⟨g, 1, none⟩ = some b
  c2 : w.cell? ⟨g, 2, none⟩ = some c
  c3 : w.cell? ⟨g, 3, none⟩ = some d
  c4 : w.cell? ⟨g, 4, none⟩ = some e
  fz : ∀ i, i < 5 → w.frozen? ⟨g, i, none⟩ = false
  lt : g < w.heap.size
theorem FiveAt.gr {w w' : World} {g : Nat} {a b c d e : Value} (x : FiveAt w g a b c d e) (k : Gr w w') : FiveAt w' g a b c d e :=
  ⟨k.keep x.c0, k.keep x.c1, k.keep x.c2, k.keep x.c3, k.keep x.c4, fun i hi => k.keepF x.lt (x.fz i hi), Nat.lt_of_lt_of_le x.lt k.size⟩
theorem FiveAt.new (w : World) (a b c d e : Value) (t : TypeId) (g : Nat) (hg : g = w.heap.size) : FiveAt (w.alloc (.cells #[a, b, c, d, e] t)) g a b c d e := by
  subst hg
  exact ⟨by simp, by simp, by simp, by simp, by simp, fun i hi => by simp [go_sem], by simp⟩
set_option maxHeartbeats 4000000 in
set_option maxRecDepth 100000 in
theorem markMay_any (A : List Acc) (m : Mk) (ad : Option Addr) (cap : Nat) (w : World) (hA : AccsAt w ad A) (hu : Led.upB (Led.nm A) = true) (hn : A.length ≤ 1000000) (hm : inM m) :
    Calls Try.prog 71 #[.agg #[.string m.key, .int .i64 m.k, .string m.t, .int .i64 m.n, .int .i64 m.st], .func (.func 30) #[.slice ad A.length cap] #[]] w fun e w' => e = .returned (.bool (Led.mkOk A m)) ∧ Gr w w' := by
  have HF : Hid (∀ w', Gr w w' → Calls Try.prog 30 #[.slice ad A.length cap, .string m.t] w' fun e w2 => e = .returned (.tuple #[.int .i64 (Led.pos (Led.nm A) m.t : Nat), .bool (Led.hasB (Led.nm A) m.t)]) ∧ Gr w' w2) := fun w' g => findA_any A m.t ad cap w' (hA.gr g) hu hn
  have HI : Hid (∀ w', Calls Try.prog 55 #[.string m.key] w' fun e w2 => e = .returned (.bool (Led.keyB m.key)) ∧ w2 = w') := fun w' => isKey_any m.key w' hm.1
  have HC : Hid (∀ w', Calls Try.prog 56 #[.agg #[.int .i64 m.k, .string m.t, .int .i64 m.n]] w' fun e w2 => e = .returned (.int .i64 (Act.chkE m.k m.t m.n)) ∧ Gr w' w2) := fun w' => actCheck_any m.k m.n m.t w' hm.2.2.1
  clear hA hu hm
  unfold Led.mkOk
  unfold Act.chkE at HC
  generalize Led.pos (Led.nm A) m.t = p at *
  generalize Led.hasB (Led.nm A) m.t = hb at *
  generalize Led.keyB m.key = kb at *
  generalize Act.actB m.k m.t m.n = cb at *
  obtain ⟨key, k, t, n, st⟩ := m
  simp only at HF HI HC ⊢
  have hst : ∃ s1 s2 : Bool, decide (1 ≤ st) = s1 ∧ decide (st ≤ 3) = s2 := ⟨_, _, rfl, rfl⟩
  obtain ⟨s1, s2, hs1, hs2⟩ := hst
  rw [hs1, hs2]
  cases kb
  · clear HC
    cases s1
    · go_enter Try.func71, Try.ntmps71
      go_wp2_with fail
      refine (HF.out _ (Gr.refl _).alloc).mono ?_
      rintro e w1 ⟨rfl, hg1⟩
      obtain ⟨b0, b1, b2, b3, b4, _, b6⟩ := (FiveAt.new w _ _ _ _ _ _ w.heap.size rfl).gr hg1
      go_wp2_with fail
      refine (HI.out _).mono ?_
      rintro e w2 ⟨rfl, hw2⟩; obtain rfl := hw2.symm
      go_wp2
      go_ret
      exact ⟨rfl, (by repeat (first | exact Gr.refl _ | refine Gr.alloc ?_ | refine Gr.drew ?_ | refine Gr.trans ?_ (by assumption)))⟩
    · go_enter Try.func71, Try.ntmps71
      go_wp2_with fail
      refine (HF.out _ (Gr.refl _).alloc).mono ?_
      rintro e w1 ⟨rfl, hg1⟩
      obtain ⟨b0, b1, b2, b3, b4, _, b6⟩ := (FiveAt.new w _ _ _ _ _ _ w.heap.size rfl).gr hg1
      go_wp2_with fail
      refine (HI.out _).mono ?_
      rintro e w2 ⟨rfl, hw2⟩; obtain rfl := hw2.symm
      go_wp2
      go_ret
      exact ⟨rfl, (by repeat (first | exact Gr.refl _ | refine Gr.alloc ?_ | refine Gr.drew ?_ | refine Gr.trans ?_ (by assumption)))⟩
  · cases cb <;> cases hb <;> cases s1
    all_goals
      go_enter Try.func71, Try.ntmps71
      go_wp2_with fail
      refine (HF.out _ (Gr.refl _).alloc).mono ?_
      rintro e w1 ⟨rfl, hg1⟩
      obtain ⟨b0, b1, b2, b3, b4, _, b6⟩ := (FiveAt.new w _ _ _ _ _ _ w.heap.size rfl).gr hg1
      go_wp2_with fail
      refine (HI.out _).mono ?_
      rintro e w2 ⟨rfl, hw2⟩; obtain rfl := hw2.symm
      go_wp2_with fail
      refine (HC.out _).mono ?_
      rintro e w2 ⟨rfl, hg2⟩
      go_wp2
      go_ret
      exact ⟨by simp, (by repeat (first | exact Gr.refl _ | refine Gr.alloc ?_ | refine Gr.drew ?_ | refine Gr.trans ?_ (by assumption)))⟩
end Go.Proofs.Ytgidkmipecfjhaa
