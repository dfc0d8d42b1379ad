/- What the proof is made of, part 26. -/
import Derived.Test.YtgidkmipecfjhaaTLLDoes25
namespace Go.Proofs.Ytgidkmipecfjhaa
open Go.RowKit
set_option maxHeartbeats 1000000 in
theorem refFit_any (h i o a : Int) (w : World) :
    Calls Try.prog 111 #[.agg #[.int .i64 h, .int .i64 i, .int .i64 o], .int .i64 a] w fun e w' => e = .returned (.bool (Pot.argB h i o a)) ∧ Gr w w' := by
  have HC : Hid (∀ w', Calls Try.prog 73 #[.agg #[.int .i64 h, .int .i64 i, .int .i64 o]] w' fun e w2 => e = .returned (.int .i64 (Pot.chkE h i o)) ∧ Gr w' w2) := fun w' => refCheck_any h i o w'
  cases hb : Pot.argB h i o a with
  | true =>
    obtain ⟨⟨h1, h2, h3, h4⟩, h5, h6⟩ := (Pot.arg_iff h i o a).1 hb
    rw [show Pot.chkE h i o = 0 by unfold Pot.chkE; rw [if_pos ((Pot.may_iff h i o).2 ⟨h1, h2, h3, h4⟩)]] at HC
    clear hb
    go_enter Try.func111, Try.ntmps111
    go_wp2_with fail
    refine (HC.out _).mono ?_
    rintro e w1 ⟨rfl, hg1⟩
    go_wp2
    go_ret
    exact ⟨rfl, (by repeat (first | exact Gr.refl _ | refine Gr.alloc ?_ | refine Gr.drew ?_ | refine Gr.trans ?_ (by assumption)))⟩
  | false =>
    have hn := Pot.arg_no h i o a hb
    clear hb
    cases hm : Pot.mayB h i o with
    | false =>
      rw [show Pot.chkE h i o = 2 by unfold Pot.chkE; rw [hm]; rfl] at HC
      clear hn hm
      go_enter Try.func111, Try.ntmps111
      go_wp2_with fail
      refine (HC.out _).mono ?_
      rintro e w1 ⟨rfl, hg1⟩
      go_wp2
      go_ret
      exact ⟨rfl, (by repeat (first | exact Gr.refl _ | refine Gr.alloc ?_ | refine Gr.drew ?_ | refine Gr.trans ?_ (by assumption)))⟩
    | true =>
      rw [show Pot.chkE h i o = 0 by unfold Pot.chkE; rw [hm]; rfl] at HC
      rw [hm] at hn
      clear hm
      have hn' : a < 1 ∨ 1000000000000000 < a := by simpa using hn
      clear hn
      by_cases k1 : 1 ≤ a
      · have K2 : Hid (¬ a ≤ 1000000000000000) := by show ¬ _; omega
        clear hn'
        go_enter Try.func111, Try.ntmps111
        go_wp2_with fail
        refine (HC.out _).mono ?_
        rintro e w1 ⟨rfl, hg1⟩
        go_wp2
        go_ret
        exact ⟨by simp [K2.out], (by repeat (first | exact Gr.refl _ | refine Gr.alloc ?_ | refine Gr.drew ?_ | refine Gr.trans ?_ (by assumption)))⟩
      · clear hn'
        go_enter Try.func111, Try.ntmps111
        go_wp2_with fail
        refine (HC.out _).mono ?_
        rintro e w1 ⟨rfl, hg1⟩
        go_wp2
        go_ret
        exact ⟨rfl, (by repeat (first | exact Gr.refl _ | refine Gr.alloc ?_ | refine Gr.drew ?_ | refine Gr.trans ?_ (by assumption)))⟩
set_option maxHeartbeats 4000000 in
theorem refUndo_any (h i o a : Int) (out : Bool) (w : World) :
    Calls Try.prog 99 #[.agg #[.int .i64 h, .int .i64 i, .int .i64 o], .bool out, .int .i64 a] w fun e w' =>
      e = .returned (.tuple #[.agg #[.int .i64 (Pot.pick (Pot.eUn out h i o a) (h + Pot.sg out 1 (-1) * a)), .int .i64 (Pot.pick (Pot.eUn out h i o a) (i + Pot.sg out 0 (-1) * a)), .int .i64 (Pot.pick (Pot.eUn out h i o a) (o + Pot.sg out (-1) 0 * a))], .int .i64 (Pot.eUn out h i o a)]) ∧ Gr w w' := by
  have HF : Hid (∀ w', Calls Try.prog 111 #[.agg #[.int .i64 h, .int .i64 i, .int .i64 o], .int .i64 a] w' fun e w2 => e = .returned (.bool (Pot.argB h i o a)) ∧ Gr w' w2) := fun w' => refFit_any h i o a w'
  have hE : ∀ out, Pot.eUn out h i o a = Pot.errE h i o a (Pot.mostUn out i o) := fun _ => rfl
  cases hb : Pot.argB h i o a with
  | false =>
    rw [hb] at HF
    rw [hE, Pot.err_arg hb, Pot.pick2, Pot.pick2, Pot.pick2]
    clear hb hE
    go_enter Try.func99, Try.ntmps99
    go_wp2_with fail
    refine (HF.out _).mono ?_
    rintro e w1 ⟨rfl, hg1⟩
    obtain ⟨b0, b1, b2, b3, b4, b5, b6⟩ := (BoxAt.new _ _ _ _ _ (w.heap.size + 1) (by simp)).gr hg1
    obtain ⟨c0, c1, c2, c3, c4, c5, c6⟩ := (BoxAt.new w _ _ _ _ (w.heap.size) (by simp)).gr ((Gr.refl _).alloc.trans hg1)
    go_wp2
    exact bodyPost_ret (v := .tuple #[.agg #[.int .i64 0, .int .i64 0, .int .i64 0], .int .i64 2]) (by simp [results, Try.results99, go_sem, b0, b1, b2]) rfl ⟨rfl, (by (with_reducible repeat' (first | exact Gr.refl _ | refine Gr.set ?_ _ ?_ _ | refine Gr.alloc ?_ | refine Gr.drew ?_ | refine Gr.trans ?_ (by assumption))) <;> (first | (simp; done) | (simp; omega) | omega))⟩
  | true =>
    rw [hb] at HF
    obtain ⟨⟨h1, h2, h3, h4⟩, h5, h6⟩ := (Pot.arg_iff h i o a).1 hb
    cases out with
    | true =>
      by_cases hm : o < a
      · rw [hE, show Pot.mostUn true i o = o from rfl, Pot.err_pot hb hm, Pot.pick50, Pot.pick50, Pot.pick50]
        clear hb hE
        go_enter Try.func99, Try.ntmps99
        go_wp2_with fail
        refine (HF.out _).mono ?_
        rintro e w1 ⟨rfl, hg1⟩
        obtain ⟨b0, b1, b2, b3, b4, b5, b6⟩ := (BoxAt.new _ _ _ _ _ (w.heap.size + 1) (by simp)).gr hg1
        obtain ⟨c0, c1, c2, c3, c4, c5, c6⟩ := (BoxAt.new w _ _ _ _ (w.heap.size) (by simp)).gr ((Gr.refl _).alloc.trans hg1)
        go_wp2
        exact bodyPost_ret (v := .tuple #[.agg #[.int .i64 0, .int .i64 0, .int .i64 0], .int .i64 50]) (by simp [results, Try.results99, go_sem, b0, b1, b2]) rfl ⟨rfl, (by (with_reducible repeat' (first | exact Gr.refl _ | refine Gr.set ?_ _ ?_ _ | refine Gr.alloc ?_ | refine Gr.drew ?_ | refine Gr.trans ?_ (by assumption))) <;> (first | (simp; done) | (simp; omega) | omega))⟩
      · rw [hE, show Pot.mostUn true i o = o from rfl, Pot.err_ok hb hm, Pot.pick0, Pot.pick0, Pot.pick0]
        rw [show h + Pot.sg true 1 (-1) * a = h + a by simp [Pot.sg]; try omega]
        rw [show i + Pot.sg true 0 (-1) * a = i by simp [Pot.sg]; try omega]
        rw [show o + Pot.sg true (-1) 0 * a = o - a by simp [Pot.sg]; try omega]
        clear hb hE
        go_enter Try.func99, Try.ntmps99
        go_wp2_with fail
        refine (HF.out _).mono ?_
        rintro e w1 ⟨rfl, hg1⟩
        obtain ⟨b0, b1, b2, b3, b4, b5, b6⟩ := (BoxAt.new _ _ _ _ _ (w.heap.size + 1) (by simp)).gr hg1
        obtain ⟨c0, c1, c2, c3, c4, c5, c6⟩ := (BoxAt.new w _ _ _ _ (w.heap.size) (by simp)).gr ((Gr.refl _).alloc.trans hg1)
        go_wp2
        exact bodyPost_ret (v := .tuple #[.agg #[.int .i64 (h + a), .int .i64 (i), .int .i64 (o - a)], .int .i64 0]) (by simp [results, Try.results99, go_sem, b0, b1, b2]) rfl ⟨rfl, (by (with_reducible repeat' (first | exact Gr.refl _ | refine Gr.set ?_ _ ?_ _ | refine Gr.alloc ?_ | refine Gr.drew ?_ | refine Gr.trans ?_ (by assumption))) <;> (first | (simp; done) | (simp; omega) | omega))⟩
    | false =>
      by_cases hm : i < a
      · rw [hE, show Pot.mostUn false i o = i from rfl, Pot.err_pot hb hm, Pot.pick50, Pot.pick50, Pot.pick50]
        clear hb hE
        go_enter Try.func99, Try.ntmps99
        go_wp2_with fail
        refine (HF.out _).mono ?_
        rintro e w1 ⟨rfl, hg1⟩
        obtain ⟨b0, b1, b2, b3, b4, b5, b6⟩ := (BoxAt.new _ _ _ _ _ (w.heap.size + 1) (by simp)).gr hg1
        obtain ⟨c0, c1, c2, c3, c4, c5, c6⟩ := (BoxAt.new w _ _ _ _ (w.heap.size) (by simp)).gr ((Gr.refl _).alloc.trans hg1)
        go_wp2
        exact bodyPost_ret (v := .tuple #[.agg #[.int .i64 0, .int .i64 0, .int .i64 0], .int .i64 50]) (by simp [results, Try.results99, go_sem, b0, b1, b2]) rfl ⟨rfl, (by (with_reducible repeat' (first | exact Gr.refl _ | refine Gr.set ?_ _ ?_ _ | refine Gr.alloc ?_ | refine Gr.drew ?_ | refine Gr.trans ?_ (by assumption))) <;> (first | (simp; done) | (simp; omega) | omega))⟩
      · rw [hE, show Pot.mostUn false i o = i from rfl, Pot.err_ok hb hm, Pot.pick0, Pot.pick0, Pot.pick0]
        rw [show h + Pot.sg false 1 (-1) * a = h - a by simp [Pot.sg]; try omega]
        rw [show i + Pot.sg false 0 (-1) * a = i - a by simp [Pot.sg]; try omega]
        rw [show o + Pot.sg false (-1) 0 * a = o by simp [Pot.sg]; try omega]
        clear hb hE
        go_enter Try.func99, Try.ntmps99
        go_wp2_with fail
        refine (HF.out _).mono ?_
        rintro e w1 ⟨rfl, hg1⟩
        obtain ⟨b0, b1, b2, b3, b4, b5, b6⟩ := (BoxAt.new _ _ _ _ _ (w.heap.size + 1) (by simp)).gr hg1
        obtain ⟨c0, c1, c2, c3, c4, c5, c6⟩ := (BoxAt.new w _ _ _ _ (w.heap.size) (by simp)).gr ((Gr.refl _).alloc.trans hg1)
        go_wp2
        exact bodyPost_ret (v := .tuple #[.agg #[.int .i64 (h - a), .int .i64 (i - a), .int .i64 (o)], .int .i64 0]) (by simp [results, Try.results99, go_sem, b0, b1, b2]) rfl ⟨rfl, (by (with_reducible repeat' (first | exact Gr.refl _ | refine Gr.set ?_ _ ?_ _ | refine Gr.alloc ?_ | refine Gr.drew ?_ | refine Gr.trans ?_ (by assumption))) <;> (first | (simp; done) | (simp; omega) | omega))⟩
set_option maxHeartbeats 4000000 in
theorem refKeep_any (h i o a : Int) (out : Bool) (w : World) :
    Calls Try.prog 100 #[.agg #[.int .i64 h, .int .i64 i, .int .i64 o], .bool out, .int .i64 a] w fun e w' =>
      e = .returned (.tuple #[.agg #[.int .i64 (Pot.pick (Pot.eUn out h i o a) (h + Pot.sg out 0 0 * a)), .int .i64 (Pot.pick (Pot.eUn out h i o a) (i + Pot.sg out 0 (-1) * a)), .int .i64 (Pot.pick (Pot.eUn out h i o a) (o + Pot.sg out (-1) 0 * a))], .int .i64 (Pot.eUn out h i o a)]) ∧ Gr w w' := by
  have HF : Hid (∀ w', Calls Try.prog 111 #[.agg #[.int .i64 h, .int .i64 i, .int .i64 o], .int .i64 a] w' fun e w2 => e = .returned (.bool (Pot.argB h i o a)) ∧ Gr w' w2) := fun w' => refFit_any h i o a w'
  have hE : ∀ out, Pot.eUn out h i o a = Pot.errE h i o a (Pot.mostUn out i o) := fun _ => rfl
  cases hb : Pot.argB h i o a with
  | false =>
    rw [hb] at HF
    rw [hE, Pot.err_arg hb, Pot.pick2, Pot.pick2, Pot.pick2]
    clear hb hE
    go_enter Try.func100, Try.ntmps100
    go_wp2_with fail
    refine (HF.out _).mono ?_
    rintro e w1 ⟨rfl, hg1⟩
    obtain ⟨b0, b1, b2, b3, b4, b5, b6⟩ := (BoxAt.new _ _ _ _ _ (w.heap.size + 1) (by simp)).gr hg1
    obtain ⟨c0, c1, c2, c3, c4, c5, c6⟩ := (BoxAt.new w _ _ _ _ (w.heap.size) (by simp)).gr ((Gr.refl _).alloc.trans hg1)
    go_wp2
    exact bodyPost_ret (v := .tuple #[.agg #[.int .i64 0, .int .i64 0, .int .i64 0], .int .i64 2]) (by simp [results, Try.results100, go_sem, b0, b1, b2]) rfl ⟨rfl, (by (with_reducible repeat' (first | exact Gr.refl _ | refine Gr.set ?_ _ ?_ _ | refine Gr.alloc ?_ | refine Gr.drew ?_ | refine Gr.trans ?_ (by assumption))) <;> (first | (simp; done) | (simp; omega) | omega))⟩
  | true =>
    rw [hb] at HF
    obtain ⟨⟨h1, h2, h3, h4⟩, h5, h6⟩ := (Pot.arg_iff h i o a).1 hb
    cases out with
    | true =>
      by_cases hm : o < a
      · rw [hE, show Pot.mostUn true i o = o from rfl, Pot.err_pot hb hm, Pot.pick50, Pot.pick50, Pot.pick50]
        clear hb hE
        go_enter Try.func100, Try.ntmps100
        go_wp2_with fail
        refine (HF.out _).mono ?_
        rintro e w1 ⟨rfl, hg1⟩
        obtain ⟨b0, b1, b2, b3, b4, b5, b6⟩ := (BoxAt.new _ _ _ _ _ (w.heap.size + 1) (by simp)).gr hg1
        obtain ⟨c0, c1, c2, c3, c4, c5, c6⟩ := (BoxAt.new w _ _ _ _ (w.heap.size) (by simp)).gr ((Gr.refl _).alloc.trans hg1)
        go_wp2
        exact bodyPost_ret (v := .tuple #[.agg #[.int .i64 0, .int .i64 0, .int .i64 0], .int .i64 50]) (by simp [results, Try.results100, go_sem, b0, b1, b2]) rfl ⟨rfl, (by (with_reducible repeat' (first | exact Gr.refl _ | refine Gr.set ?_ _ ?_ _ | refine Gr.alloc ?_ | refine Gr.drew ?_ | refine Gr.trans ?_ (by assumption))) <;> (first | (simp; done) | (simp; omega) | omega))⟩
      · rw [hE, show Pot.mostUn true i o = o from rfl, Pot.err_ok hb hm, Pot.pick0, Pot.pick0, Pot.pick0]
        rw [show h + Pot.sg true 0 0 * a = h by simp [Pot.sg]; try omega]
        rw [show i + Pot.sg true 0 (-1) * a = i by simp [Pot.sg]; try omega]
        rw [show o + Pot.sg true (-1) 0 * a = o - a by simp [Pot.sg]; try omega]
        clear hb hE
        go_enter Try.func100, Try.ntmps100
        go_wp2_with fail
        refine (HF.out _).mono ?_
        rintro e w1 ⟨rfl, hg1⟩
        obtain ⟨b0, b1, b2, b3, b4, b5, b6⟩ := (BoxAt.new _ _ _ _ _ (w.heap.size + 1) (by simp)).gr hg1
        obtain ⟨c0, c1, c2, c3, c4, c5, c6⟩ := (BoxAt.new w _ _ _ _ (w.heap.size) (by simp)).gr ((Gr.refl _).alloc.trans hg1)
        go_wp2
        exact bodyPost_ret (v := .tuple #[.agg #[.int .i64 (h), .int .i64 (i), .int .i64 (o - a)], .int .i64 0]) (by simp [results, Try.results100, go_sem, b0, b1, b2]) rfl ⟨rfl, (by (with_reducible repeat' (first | exact Gr.refl _ | refine Gr.set ?_ _ ?_ _ | refine Gr.alloc ?_ | refine Gr.drew ?_ | refine Gr.trans ?_ (by assumption))) <;> (first | (simp; done) | (simp; omega) | omega))⟩
    | false =>
      by_cases hm : i < a
      · rw [hE, show Pot.mostUn false i o = i from rfl, Pot.err_pot hb hm, Pot.pick50, Pot.pick50, Pot.pick50]
        clear hb hE
        go_enter Try.func100, Try.ntmps100
        go_wp2_with fail
        refine (HF.out _).mono ?_
        rintro e w1 ⟨rfl, hg1⟩
        obtain ⟨b0, b1, b2, b3, b4, b5, b6⟩ := (BoxAt.new _ _ _ _ _ (w.heap.size + 1) (by simp)).gr hg1
        obtain ⟨c0, c1, c2, c3, c4, c5, c6⟩ := (BoxAt.new w _ _ _ _ (w.heap.size) (by simp)).gr ((Gr.refl _).alloc.trans hg1)
        go_wp2
        exact bodyPost_ret (v := .tuple #[.agg #[.int .i64 0, .int .i64 0, .int .i64 0], .int .i64 50]) (by simp [results, Try.results100, go_sem, b0, b1, b2]) rfl ⟨rfl, (by (with_reducible repeat' (first | exact Gr.refl _ | refine Gr.set ?_ _ ?_ _ | refine Gr.alloc ?_ | refine Gr.drew ?_ | refine Gr.trans ?_ (by assumption))) <;> (first | (simp; done) | (simp; omega) | omega))⟩
      · rw [hE, show Pot.mostUn false i o = i from rfl, Pot.err_ok hb hm, Pot.pick0, Pot.pick0, Pot.pick0]
        rw [show h + Pot.sg false 0 0 * a = h by simp [Pot.sg]; try omega]
        rw [show i + Pot.sg false 0 (-1) * a = i - a by simp [Pot.sg]; try omega]
        rw [show o + Pot.sg false (-1) 0 * a = o by simp [Pot.sg]; try omega]
        clear hb hE
        go_enter Try.func100, Try.ntmps100
        go_wp2_with fail
        refine (HF.out _).mono ?_
        rintro e w1 ⟨rfl, hg1⟩
        obtain ⟨b0, b1, b2, b3, b4, b5, b6⟩ := (BoxAt.new _ _ _ _ _ (w.heap.size + 1) (by simp)).gr hg1
        obtain ⟨c0, c1, c2, c3, c4, c5, c6⟩ := (BoxAt.new w _ _ _ _ (w.heap.size) (by simp)).gr ((Gr.refl _).alloc.trans hg1)
        go_wp2
        exact bodyPost_ret (v := .tuple #[.agg #[.int .i64 (h), .int .i64 (i - a), .int .i64 (o)], .int .i64 0]) (by simp [results, Try.results100, go_sem, b0, b1, b2]) rfl ⟨rfl, (by (with_reducible repeat' (first | exact Gr.refl _ | refine Gr.set ?_ _ ?_ _ | refine Gr.alloc ?_ | refine Gr.drew ?_ | refine Gr.trans ?_ (by assumption))) <;> (first | (simp; done) | (simp; omega) | omega))⟩
set_option maxHeartbeats 4000000 in
theorem refDo_any (h i o a : Int) (out : Bool) (w : World) :
    Calls Try.prog 98 #[.agg #[.int .i64 h, .int .i64 i, .int .i64 o], .bool out, .int .i64 a] w fun e w' =>
      e = .returned (.tuple #[.agg #[.int .i64 (Pot.pick (Pot.eDo out h i o a) (h + Pot.sg out (-1) 1 * a)), .int .i64 (Pot.pick (Pot.eDo out h i o a) (i + Pot.sg out 0 1 * a)), .int .i64 (Pot.pick (Pot.eDo out h i o a) (o + Pot.sg out 1 0 * a))], .int .i64 (Pot.eDo out h i o a)]) ∧ Gr w w' := by
  have HF : Hid (∀ w', Calls Try.prog 111 #[.agg #[.int .i64 h, .int .i64 i, .int .i64 o], .int .i64 a] w' fun e w2 => e = .returned (.bool (Pot.argB h i o a)) ∧ Gr w' w2) := fun w' => refFit_any h i o a w'
  have hE : ∀ out, Pot.eDo out h i o a = Pot.errE h i o a (Pot.mostDo out h i o) := fun _ => rfl
  have HE : Hid (∀ w', Calls Try.prog 112 #[.agg #[.int .i64 h, .int .i64 i, .int .i64 o]] w' fun e w2 => e = .returned (.int .i64 (Pot.freeE h i o)) ∧ Gr w' w2) := fun w' => refFree_any h i o w'
  have HR : Hid (∀ w', Calls Try.prog 113 #[.agg #[.int .i64 h, .int .i64 i, .int .i64 o]] w' fun e w2 => e = .returned (.int .i64 (Pot.roomE h i o)) ∧ Gr w' w2) := fun w' => refRoom_any h i o w'
  cases hb : Pot.argB h i o a with
  | false =>
    rw [hb] at HF
    rw [hE, Pot.err_arg hb, Pot.pick2, Pot.pick2, Pot.pick2]
    clear hb hE HE HR
    go_enter Try.func98, Try.ntmps98
    go_wp2_with fail
    refine (HF.out _).mono ?_
    rintro e w1 ⟨rfl, hg1⟩
    obtain ⟨b0, b1, b2, b3, b4, b5, b6⟩ := (BoxAt.new _ _ _ _ _ (w.heap.size + 1) (by simp)).gr hg1
    obtain ⟨c0, c1, c2, c3, c4, c5, c6⟩ := (BoxAt.new w _ _ _ _ (w.heap.size) (by simp)).gr ((Gr.refl _).alloc.trans hg1)
    go_wp2
    exact bodyPost_ret (v := .tuple #[.agg #[.int .i64 0, .int .i64 0, .int .i64 0], .int .i64 2]) (by simp [results, Try.results98, go_sem, b0, b1, b2]) rfl ⟨rfl, (by (with_reducible repeat' (first | exact Gr.refl _ | refine Gr.set ?_ _ ?_ _ | refine Gr.alloc ?_ | refine Gr.drew ?_ | refine Gr.trans ?_ (by assumption))) <;> (first | (simp; done) | (simp; omega) | omega))⟩
  | true =>
    rw [hb] at HF
    obtain ⟨⟨h1, h2, h3, h4⟩, h5, h6⟩ := (Pot.arg_iff h i o a).1 hb
    have f1 : Pot.freeE h i o = h - i := by unfold Pot.freeE; rw [if_pos ((Pot.may_iff h i o).2 ⟨h1, h2, h3, h4⟩)]
    have f2 : Pot.roomE h i o = 1000000000000000 - h - o := by unfold Pot.roomE; rw [if_pos ((Pot.may_iff h i o).2 ⟨h1, h2, h3, h4⟩)]
    rw [f1] at HE
    rw [f2] at HR
    cases out with
    | true =>
      by_cases hm : h - i < a
      · rw [hE, show Pot.mostDo true h i o = h - i from f1, Pot.err_pot hb hm, Pot.pick50, Pot.pick50, Pot.pick50]
        clear hb hE f1 f2
        go_enter Try.func98, Try.ntmps98
        go_wp2_with fail
        refine (HF.out _).mono ?_
        rintro e w1 ⟨rfl, hg1⟩
        obtain ⟨b0, b1, b2, b3, b4, b5, b6⟩ := (BoxAt.new _ _ _ _ _ (w.heap.size + 1) (by simp)).gr hg1
        obtain ⟨c0, c1, c2, c3, c4, c5, c6⟩ := (BoxAt.new w _ _ _ _ (w.heap.size) (by simp)).gr ((Gr.refl _).alloc.trans hg1)
        go_wp2_with fail
        refine (HE.out _).mono ?_
        rintro e w2 ⟨rfl, hg2⟩
        obtain ⟨d0, d1, d2, d3, d4, d5, d6⟩ := (BoxAt.mk b0 b1 b2 b3 b4 b5 b6).gr hg2
        obtain ⟨e0, e1, e2, e3, e4, e5, e6⟩ := (BoxAt.mk c0 c1 c2 c3 c4 c5 c6).gr hg2
        go_wp2
        exact bodyPost_ret (v := .tuple #[.agg #[.int .i64 0, .int .i64 0, .int .i64 0], .int .i64 50]) (by simp [results, Try.results98, go_sem, d0, d1, d2]) rfl ⟨rfl, (by (with_reducible repeat' (first | exact Gr.refl _ | refine Gr.set ?_ _ ?_ _ | refine Gr.alloc ?_ | refine Gr.drew ?_ | refine Gr.trans ?_ (by assumption))) <;> (first | (simp; done) | (simp; omega) | omega))⟩
      · rw [hE, show Pot.mostDo true h i o = h - i from f1, Pot.err_ok hb hm, Pot.pick0, Pot.pick0, Pot.pick0]
        rw [show h + Pot.sg true (-1) 1 * a = h - a by simp [Pot.sg]; try omega]
        rw [show i + Pot.sg true 0 1 * a = i by simp [Pot.sg]; try omega]
        rw [show o + Pot.sg true 1 0 * a = o + a by simp [Pot.sg]; try omega]
        clear hb hE f1 f2
        go_enter Try.func98, Try.ntmps98
        go_wp2_with fail
        refine (HF.out _).mono ?_
        rintro e w1 ⟨rfl, hg1⟩
        obtain ⟨b0, b1, b2, b3, b4, b5, b6⟩ := (BoxAt.new _ _ _ _ _ (w.heap.size + 1) (by simp)).gr hg1
        obtain ⟨c0, c1, c2, c3, c4, c5, c6⟩ := (BoxAt.new w _ _ _ _ (w.heap.size) (by simp)).gr ((Gr.refl _).alloc.trans hg1)
        go_wp2_with fail
        refine (HE.out _).mono ?_
        rintro e w2 ⟨rfl, hg2⟩
        obtain ⟨d0, d1, d2, d3, d4, d5, d6⟩ := (BoxAt.mk b0 b1 b2 b3 b4 b5 b6).gr hg2
        obtain ⟨e0, e1, e2, e3, e4, e5, e6⟩ := (BoxAt.mk c0 c1 c2 c3 c4 c5 c6).gr hg2
        go_wp2
        exact bodyPost_ret (v := .tuple #[.agg #[.int .i64 (h - a), .int .i64 (i), .int .i64 (o + a)], .int .i64 0]) (by simp [results, Try.results98, go_sem, d0, d1, d2]) rfl ⟨rfl, (by (with_reducible repeat' (first | exact Gr.refl _ | refine Gr.set ?_ _ ?_ _ | refine Gr.alloc ?_ | refine Gr.drew ?_ | refine Gr.trans ?_ (by assumption))) <;> (first | (simp; done) | (simp; omega) | omega))⟩
    | false =>
      by_cases hm : 1000000000000000 - h - o < a
      · rw [hE, show Pot.mostDo false h i o = 1000000000000000 - h - o from f2, Pot.err_pot hb hm, Pot.pick50, Pot.pick50, Pot.pick50]
        clear hb hE f1 f2
        go_enter Try.func98, Try.ntmps98
        go_wp2_with fail
        refine (HF.out _).mono ?_
        rintro e w1 ⟨rfl, hg1⟩
        obtain ⟨b0, b1, b2, b3, b4, b5, b6⟩ := (BoxAt.new _ _ _ _ _ (w.heap.size + 1) (by simp)).gr hg1
        obtain ⟨c0, c1, c2, c3, c4, c5, c6⟩ := (BoxAt.new w _ _ _ _ (w.heap.size) (by simp)).gr ((Gr.refl _).alloc.trans hg1)
        go_wp2_with fail
        refine (HR.out _).mono ?_
        rintro e w2 ⟨rfl, hg2⟩
        obtain ⟨d0, d1, d2, d3, d4, d5, d6⟩ := (BoxAt.mk b0 b1 b2 b3 b4 b5 b6).gr hg2
        obtain ⟨e0, e1, e2, e3, e4, e5, e6⟩ := (BoxAt.mk c0 c1 c2 c3 c4 c5 c6).gr hg2
        go_wp2
        exact bodyPost_ret (v := .tuple #[.agg #[.int .i64 0, .int .i64 0, .int .i64 0], .int .i64 50]) (by simp [results, Try.results98, go_sem, d0, d1, d2]) rfl ⟨rfl, (by (with_reducible repeat' (first | exact Gr.refl _ | refine Gr.set ?_ _ ?_ _ | refine Gr.alloc ?_ | refine Gr.drew ?_ | refine Gr.trans ?_ (by assumption))) <;> (first | (simp; done) | (simp; omega) | omega))⟩
      · rw [hE, show Pot.mostDo false h i o = 1000000000000000 - h - o from f2, Pot.err_ok hb hm, Pot.pick0, Pot.pick0, Pot.pick0]
        rw [show h + Pot.sg false (-1) 1 * a = h + a by simp [Pot.sg]; try omega]
        rw [show i + Pot.sg false 0 1 * a = i + a by simp [Pot.sg]; try omega]
        rw [show o + Pot.sg false 1 0 * a = o by simp [Pot.sg]; try omega]
        clear hb hE f1 f2
        go_enter Try.func98, Try.ntmps98
        go_wp2_with fail
        refine (HF.out _).mono ?_
        rintro e w1 ⟨rfl, hg1⟩
        obtain ⟨b0, b1, b2, b3, b4, b5, b6⟩ := (BoxAt.new _ _ _ _ _ (w.heap.size + 1) (by simp)).gr hg1
        obtain ⟨c0, c1, c2, c3, c4, c5, c6⟩ := (BoxAt.new w _ _ _ _ (w.heap.size) (by simp)).gr ((Gr.refl _).alloc.trans hg1)
        go_wp2_with fail
        refine (HR.out _).mono ?_
        rintro e w2 ⟨rfl, hg2⟩
        obtain ⟨d0, d1, d2, d3, d4, d5, d6⟩ := (BoxAt.mk b0 b1 b2 b3 b4 b5 b6).gr hg2
        obtain ⟨e0, e1, e2, e3, e4, e5, e6⟩ := (BoxAt.mk c0 c1 c2 c3 c4 c5 c6).gr hg2
        go_wp2
        exact bodyPost_ret (v := .tuple #[.agg #[.int .i64 (h + a), .int .i64 (i + a), .int .i64 (o)], .int .i64 0]) (by simp [results, Try.results98, go_sem, d0, d1, d2]) rfl ⟨rfl, (by (with_reducible repeat' (first | exact Gr.refl _ | refine Gr.set ?_ _ ?_ _ | refine Gr.alloc ?_ | refine Gr.drew ?_ | refine Gr.trans ?_ (by assumption))) <;> (first | (simp; done) | (simp; omega) | omega))⟩
end Go.Proofs.Ytgidkmipecfjhaa
