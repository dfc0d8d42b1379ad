/- pot: move, choose. -/
import Derived.Test.YtiakajheoajepaaPotP
import Derived.Test.YtiakajheoajepaaBoxA
import Derived.BigRegion
namespace Go.Proofs.Ytiakajheoajepaa
open Go.RowKit


theorem chooseI_any (out : Bool) (x y : Int) (w : World) :
    Calls Try.prog 103 #[.bool out, .int .i64 x, .int .i64 y] w fun e w' => e = .returned (.int .i64 (Pot.sg out x y)) ∧ Gr w w' := by
  cases out
  all_goals
    go_enter Try.func103, Try.ntmps103
    go_wp2
    go_ret
    exact ⟨rfl, (by repeat (first | exact Gr.refl _ | refine Gr.alloc ?_ | refine Gr.drew ?_ | refine Gr.trans ?_ (by assumption)))⟩

theorem chooseP_any (out : Bool) (a b c x y z : Int) (w : World) :
    Calls Try.prog 104 #[.bool out, .agg #[.int .i64 a, .int .i64 b, .int .i64 c], .agg #[.int .i64 x, .int .i64 y, .int .i64 z]] w fun e w' => e = .returned (.agg #[.int .i64 (Pot.sg out a x), .int .i64 (Pot.sg out b y), .int .i64 (Pot.sg out c z)]) ∧ Gr w w' := by
  cases out
  · go_enter Try.func104, Try.ntmps104
    go_wp2
    exact bodyPost_ret (v := .agg #[.int .i64 x, .int .i64 y, .int .i64 z]) (by simp [results, Try.results104, go_sem]) rfl ⟨rfl, (by (repeat' (first | with_reducible exact Gr.refl _ | with_reducible refine Gr.set ?_ _ ?_ _ | with_reducible refine Gr.alloc ?_ | with_reducible refine Gr.drew ?_ | with_reducible refine Gr.trans ?_ (by assumption))) <;> (first | (simp; done) | (simp; omega) | omega))⟩
  · go_enter Try.func104, Try.ntmps104
    go_wp2
    exact bodyPost_ret (v := .agg #[.int .i64 a, .int .i64 b, .int .i64 c]) (by simp [results, Try.results104, go_sem]) rfl ⟨rfl, (by (repeat' (first | with_reducible exact Gr.refl _ | with_reducible refine Gr.set ?_ _ ?_ _ | with_reducible refine Gr.alloc ?_ | with_reducible refine Gr.drew ?_ | with_reducible refine Gr.trans ?_ (by assumption))) <;> (first | (simp; done) | (simp; omega) | omega))⟩

set_option maxHeartbeats 2000000 in
theorem move_any (h i o a m dh di d : Int) (w : World) (ho : o ≤ 9223372036854775807) (hh : h ≤ 9223372036854775807) (u1 : Pot.unit dh) (u2 : Pot.unit di) (u3 : Pot.unit d) :
    Calls Try.prog 102 #[.agg #[.int .i64 h, .int .i64 i, .int .i64 o], .int .i64 a, .int .i64 m, .agg #[.int .i64 dh, .int .i64 di, .int .i64 d]] w fun e w' =>
      e = .returned (.tuple #[.agg #[.int .i64 (Pot.pick (Pot.errE h i o a m) (h + dh * a)), .int .i64 (Pot.pick (Pot.errE h i o a m) (i + di * a)), .int .i64 (Pot.pick (Pot.errE h i o a m) (o + d * a))], .int .i64 (Pot.errE h i o a m)]) ∧ Gr w w' := by
  have HM : Hid (∀ w', Calls Try.prog 106 #[.agg #[.int .i64 h, .int .i64 i, .int .i64 o]] w' fun e w2 => e = .returned (.bool (Pot.mayB h i o)) ∧ Gr w' w2) := fun w' => mayBe_any h i o w' ho hh
  have HF : Hid (∀ w', Calls Try.prog 50 #[.int .i64 a] w' fun e w2 => e = .returned (.bool (decide (0 ≤ a) && decide (a ≤ 1000000000000000))) ∧ w2 = w') := fun w' => fits_any a w'
  rcases Pot.err_cases h i o a m with ⟨e1, e2, e3⟩ | ⟨e1, e2, e3⟩ | ⟨e1, e2⟩
  · rw [e1]
    obtain ⟨⟨h1, h2, h3, h4⟩, h5, h6⟩ := (Pot.arg_iff h i o a).1 e2
    rw [(Pot.may_iff h i o).2 ⟨h1, h2, h3, h4⟩] at HM
    rw [show (decide (0 ≤ a) && decide (a ≤ 1000000000000000)) = true by simp; omega] at HF
    obtain ⟨⟨r1, r2⟩, r3, r4⟩ := Pot.unit_rng h dh a u1 (by omega) (by omega) h5 h6
    obtain ⟨⟨r5, r6⟩, r7, r8⟩ := Pot.unit_rng i di a u2 (by omega) (by omega) h5 h6
    obtain ⟨⟨r9, q1⟩, q2, q3⟩ := Pot.unit_rng o d a u3 (by omega) (by omega) h5 h6
    have k1 : ¬ a < 1 := by omega
    have k2 : ¬ m < a := by omega
    rw [Pot.pick0, Pot.pick0, Pot.pick0]
    clear e1 e2 e3 u1 u2 u3
    go_enter Try.func102, Try.ntmps102
    go_wp2_with fail
    refine (HM.out _).mono ?_
    rintro e w1 ⟨rfl, hg1⟩; obtain ⟨b0, b1, b2, b3, b4, b5, b6⟩ := (BoxAt.new _ _ _ _ _ (w.heap.size + 1 + 1) (by simp)).gr hg1
    obtain ⟨hc1, hf1⟩ := hg1.cells
    go_wp2_with fail
    refine (HF.out _).mono ?_
    rintro e w2 ⟨rfl, hw2⟩; obtain rfl := hw2.symm
    go_wp2
    exact bodyPost_ret (v := .tuple #[.agg #[.int .i64 (h + dh * a), .int .i64 (i + di * a), .int .i64 (o + d * a)], .int .i64 0]) (by simp [results, Try.results102, go_sem, b0, b1, b2]) rfl ⟨rfl, (by (repeat' (first | with_reducible exact Gr.refl _ | with_reducible refine Gr.set ?_ _ ?_ _ | with_reducible refine Gr.alloc ?_ | with_reducible refine Gr.drew ?_ | with_reducible refine Gr.trans ?_ (by assumption))) <;> (first | (simp; done) | (simp; omega) | omega))⟩
  · rw [e1]
    obtain ⟨⟨h1, h2, h3, h4⟩, h5, h6⟩ := (Pot.arg_iff h i o a).1 e2
    rw [(Pot.may_iff h i o).2 ⟨h1, h2, h3, h4⟩] at HM
    rw [show (decide (0 ≤ a) && decide (a ≤ 1000000000000000)) = true by simp; omega] at HF
    have k1 : ¬ a < 1 := by omega
    rw [Pot.pick50, Pot.pick50, Pot.pick50]
    clear e1 e2 u1 u2 u3
    go_enter Try.func102, Try.ntmps102
    go_wp2_with fail
    refine (HM.out _).mono ?_
    rintro e w1 ⟨rfl, hg1⟩; obtain ⟨b0, b1, b2, b3, b4, b5, b6⟩ := (BoxAt.new _ _ _ _ _ (w.heap.size + 1 + 1) (by simp)).gr hg1
    obtain ⟨hc1, hf1⟩ := hg1.cells
    go_wp2_with fail
    refine (HF.out _).mono ?_
    rintro e w2 ⟨rfl, hw2⟩; obtain rfl := hw2.symm
    go_wp2
    exact bodyPost_ret (v := .tuple #[.agg #[.int .i64 0, .int .i64 0, .int .i64 0], .int .i64 50]) (by simp [results, Try.results102, go_sem, b0, b1, b2]) rfl ⟨rfl, (by (repeat' (first | with_reducible exact Gr.refl _ | with_reducible refine Gr.set ?_ _ ?_ _ | with_reducible refine Gr.alloc ?_ | with_reducible refine Gr.drew ?_ | with_reducible refine Gr.trans ?_ (by assumption))) <;> (first | (simp; done) | (simp; omega) | omega))⟩
  · rw [e1, Pot.pick2, Pot.pick2, Pot.pick2]
    clear u1 u2 u3
    have hn := Pot.arg_no h i o a e2
    clear e1 e2
    cases hb : Pot.mayB h i o with
    | false =>
      rw [hb] at HM
      clear hn hb HF
      go_enter Try.func102, Try.ntmps102
      go_wp2_with fail
      refine (HM.out _).mono ?_
      rintro e w1 ⟨rfl, hg1⟩; obtain ⟨b0, b1, b2, b3, b4, b5, b6⟩ := (BoxAt.new _ _ _ _ _ (w.heap.size + 1 + 1) (by simp)).gr hg1
      go_wp2
      exact bodyPost_ret (v := .tuple #[.agg #[.int .i64 0, .int .i64 0, .int .i64 0], .int .i64 2]) (by simp [results, Try.results102, go_sem, b0, b1, b2]) rfl ⟨rfl, (by (repeat' (first | with_reducible exact Gr.refl _ | with_reducible refine Gr.set ?_ _ ?_ _ | with_reducible refine Gr.alloc ?_ | with_reducible refine Gr.drew ?_ | with_reducible refine Gr.trans ?_ (by assumption))) <;> (first | (simp; done) | (simp; omega) | omega))⟩
    | true =>
      rw [hb] at HM hn
      clear hb
      have hn' : a < 1 ∨ 1000000000000000 < a := by simpa using hn
      clear hn
      by_cases k1 : a < 1
      · clear HF hn'
        go_enter Try.func102, Try.ntmps102
        go_wp2_with fail
        refine (HM.out _).mono ?_
        rintro e w1 ⟨rfl, hg1⟩; obtain ⟨b0, b1, b2, b3, b4, b5, b6⟩ := (BoxAt.new _ _ _ _ _ (w.heap.size + 1 + 1) (by simp)).gr hg1
        obtain ⟨hc1, hf1⟩ := hg1.cells
        go_wp2
        exact bodyPost_ret (v := .tuple #[.agg #[.int .i64 0, .int .i64 0, .int .i64 0], .int .i64 2]) (by simp [results, Try.results102, go_sem, b0, b1, b2]) rfl ⟨rfl, (by (repeat' (first | with_reducible exact Gr.refl _ | with_reducible refine Gr.set ?_ _ ?_ _ | with_reducible refine Gr.alloc ?_ | with_reducible refine Gr.drew ?_ | with_reducible refine Gr.trans ?_ (by assumption))) <;> (first | (simp; done) | (simp; omega) | omega))⟩
      · rw [show (decide (0 ≤ a) && decide (a ≤ 1000000000000000)) = false by simp; omega] at HF
        clear hn'
        go_enter Try.func102, Try.ntmps102
        go_wp2_with fail
        refine (HM.out _).mono ?_
        rintro e w1 ⟨rfl, hg1⟩; obtain ⟨b0, b1, b2, b3, b4, b5, b6⟩ := (BoxAt.new _ _ _ _ _ (w.heap.size + 1 + 1) (by simp)).gr hg1
        obtain ⟨hc1, hf1⟩ := hg1.cells
        go_wp2_with fail
        refine (HF.out _).mono ?_
        rintro e w2 ⟨rfl, hw2⟩; obtain rfl := hw2.symm
        go_wp2
        exact bodyPost_ret (v := .tuple #[.agg #[.int .i64 0, .int .i64 0, .int .i64 0], .int .i64 2]) (by simp [results, Try.results102, go_sem, b0, b1, b2]) rfl ⟨rfl, (by (repeat' (first | with_reducible exact Gr.refl _ | with_reducible refine Gr.set ?_ _ ?_ _ | with_reducible refine Gr.alloc ?_ | with_reducible refine Gr.drew ?_ | with_reducible refine Gr.trans ?_ (by assumption))) <;> (first | (simp; done) | (simp; omega) | omega))⟩
end Go.Proofs.Ytiakajheoajepaa
