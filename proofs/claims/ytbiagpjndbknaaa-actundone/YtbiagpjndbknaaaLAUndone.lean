/- For every input the law ActUndone answers true: what is done can be undone, and leaves the account as it was; it can be kept, and then nothing of it is pending; done, both pots have changed by what the activity says. -/
import Derived.Test.YtbiagpjndbknaaaActK
import Derived.Test.YtbiagpjndbknaaaActU
import Derived.Test.YtbiagpjndbknaaaOpenA
namespace Go.Proofs.Ytbiagpjndbknaaa
open Go.ChangeShapes Go.WideShapes Go.ChangeAt Go.RowKit

theorem done_calls (s : ByteArray) (a b c x y z k n : Int) (t : ByteArray) (hX : inX s a b c x y z) (hT : inT k t n) (h : Act.mvE Act.chDo s a b c x y z k t n = 0) :
    t = s ∧ ∃ d g b' c' y' z', ((0 ≤ a ∧ a ≤ 1000000000000000) ∧ (0 ≤ x ∧ x ≤ 1000000000000000) ∧ (0 ≤ a + d ∧ a + d ≤ 1000000000000000) ∧ (0 ≤ x + g ∧ x + g ≤ 1000000000000000)) ∧
      Hid (∀ w', Calls Try.prog 16 #[.agg #[.string s, .int .i64 a, .int .i64 b, .int .i64 c, .int .i64 x, .int .i64 y, .int .i64 z], .agg #[.int .i64 k, .string s, .int .i64 n]] w' fun e w2 => e = .returned (.tuple #[.agg #[.string s, .int .i64 (a + d), .int .i64 b', .int .i64 c', .int .i64 (x + g), .int .i64 y', .int .i64 z'], .int .i64 0]) ∧ Gr w' w2) ∧
      Hid (∀ w', Calls Try.prog 7 #[.agg #[.int .i64 k, .string s, .int .i64 n]] w' fun e w2 => e = .returned (.tuple #[.int .i64 d, .int .i64 g]) ∧ Gr w' w2) ∧
      Hid (∀ w', Calls Try.prog 18 #[.agg #[.string s, .int .i64 (a + d), .int .i64 b', .int .i64 c', .int .i64 (x + g), .int .i64 y', .int .i64 z'], .agg #[.int .i64 k, .string s, .int .i64 n]] w' fun e w2 => e = .returned (.tuple #[.agg #[.string s, .int .i64 a, .int .i64 b, .int .i64 c, .int .i64 x, .int .i64 y, .int .i64 z], .int .i64 0]) ∧ Gr w' w2) ∧
      Hid (∀ w', Calls Try.prog 19 #[.agg #[.string s, .int .i64 (a + d), .int .i64 b', .int .i64 c', .int .i64 (x + g), .int .i64 y', .int .i64 z'], .agg #[.int .i64 k, .string s, .int .i64 n]] w' fun e w2 => e = .returned (.tuple #[.agg #[.string s, .int .i64 (a + d), .int .i64 b, .int .i64 c, .int .i64 (x + g), .int .i64 y, .int .i64 z], .int .i64 0]) ∧ Gr w' w2) ∧
      Hid (∀ w', Calls Try.prog 13 #[.agg #[.string s, .int .i64 (a + d), .int .i64 b, .int .i64 c, .int .i64 (x + g), .int .i64 y, .int .i64 z]] w' fun e w2 => e = .returned (.int .i64 0) ∧ Gr w' w2) := by
  obtain ⟨rfl, h1, h2, b', c', y', z', ⟨f1, f2, f3, f4, f5, f6⟩, A1, A2, ⟨u0, u1, u2, u3, u4, u5, u6⟩, ⟨k0, k1, k2, k3, k4, k5, k6⟩⟩ := Act.undone h
  have r0 := Act.acc_rng h1
  have r1 := Act.acc_rng A1
  have r2 := Act.acc_rng A2
  refine ⟨rfl, Act.dF k t n, Act.dK k t n, b', c', y', z', ⟨r0.1, r0.2.2.2.1, r1.1, r1.2.2.2.1⟩, ?_, ?_, ?_, ?_, ?_⟩
  · intro w'
    have := actD_any t a b c x y z k n t w' hX.1 hT.2.1 hX.2.1.1.2 hX.2.1.2.2.2 hX.2.2.1.2 hX.2.2.2.2.2
    rw [h, f1, f2, f3, f4, f5, f6] at this
    exact this
  · intro w'
    exact delta_any k n t w' hT.2.1
  · intro w'
    have := actU_any t (a + Act.dF k t n) b' c' (x + Act.dK k t n) y' z' k n t w' hX.1 hT.2.1 (by omega) (by omega) (by omega) (by omega)
    rw [u0, u1, u2, u3, u4, u5, u6] at this
    exact this
  · intro w'
    have := actK_any t (a + Act.dF k t n) b' c' (x + Act.dK k t n) y' z' k n t w' hX.1 hT.2.1 (by omega) (by omega) (by omega) (by omega)
    rw [k0, k1, k2, k3, k4, k5, k6] at this
    exact this
  · intro w'
    have := may_any t (a + Act.dF k t n) b c (x + Act.dK k t n) y z w' hX.1 (by omega) (by omega) (by omega) (by omega)
    rw [Act.may_yes A2] at this
    exact this

set_option maxHeartbeats 8000000 in
set_option maxRecDepth 100000 in
theorem actUndone_walk (s : ByteArray) (a b c x y z k n : Int) (t : ByteArray) (w : World) (hX : inX s a b c x y z) (hT : inT k t n) :
    Calls Try.prog 5 #[.agg #[.string s, .int .i64 a, .int .i64 b, .int .i64 c, .int .i64 x, .int .i64 y, .int .i64 z], .agg #[.int .i64 k, .string t, .int .i64 n]] w fun e w' => e = .returned (.bool true) ∧ Gr w w' := by
  have HA : Hid (∀ w', Calls Try.prog 15 #[] w' fun e w2 => e = .returned (.bool true) ∧ Gr w' w2) := fun w' => awake_any w'
  by_cases h : Act.mvE Act.chDo s a b c x y z k t n = 0
  · obtain ⟨rfl, d, g, b', c', y', z', ⟨⟨r1, r2⟩, ⟨r3, r4⟩, ⟨r5, r6⟩, r7, r8⟩, H1, H2, H3, H4, H5⟩ := done_calls s a b c x y z k n t hX hT h
    clear h hX hT
    go_enter Try.func5, Try.ntmps5
    go_wp2_with fail
    refine (H1.out _).mono ?_
    rintro e w1 ⟨rfl, hg1⟩
    have X := ((AccAt.new w _ _ _ _ _ _ _ _ w.heap.size rfl).gr (Gr.refl _).alloc).gr hg1
    have B := (BoxAt.new _ _ _ _ _ (w.heap.size + 1) (by simp)).gr hg1
    have G : Gr w w1 := (by repeat (first | exact Gr.refl _ | refine Gr.alloc ?_ | refine Gr.drew ?_ | refine Gr.trans ?_ (by assumption)))
    clear hg1
    obtain ⟨b0, b1, b2, _, _, _, bl⟩ := id B
    go_wp2_with fail
    refine (H2.out _).mono ?_
    rintro e w2 ⟨rfl, hg2⟩
    have Y := (AccAt.new w1 _ _ _ _ _ _ _ _ _ rfl).gr hg2
    have X := X.gr ((Gr.refl _).alloc.trans hg2)
    have B := B.gr ((Gr.refl _).alloc.trans hg2)
    have G := G.trans ((Gr.refl _).alloc.trans hg2)
    clear hg2 b0 b1 b2 bl
    obtain ⟨b0, b1, b2, _, _, _, bl⟩ := id B
    obtain ⟨y0, y1, y2, y3, y4, y5, y6⟩ := Y.cells
    have yl := Y.lt
    go_wp2_with fail
    refine (H3.out _).mono ?_
    rintro e w3 ⟨rfl, hg3⟩
    have Y := Y.gr hg3
    have X := X.gr hg3
    have B := B.gr hg3
    have G := G.trans hg3
    clear hg3 b0 b1 b2 bl y0 y1 y2 y3 y4 y5 y6 yl
    obtain ⟨b0, b1, b2, _, _, _, bl⟩ := id B
    obtain ⟨y0, y1, y2, y3, y4, y5, y6⟩ := Y.cells
    have yl := Y.lt
    go_wp2_with fail
    refine (H4.out _).mono ?_
    rintro e w4 ⟨rfl, hg4⟩
    have U := (AccAt.new w3 _ _ _ _ _ _ _ _ _ rfl).gr hg4
    have Y := Y.gr ((Gr.refl _).alloc.trans hg4)
    have X := X.gr ((Gr.refl _).alloc.trans hg4)
    have G := G.trans ((Gr.refl _).alloc.trans hg4)
    clear hg4 b0 b1 b2 bl y0 y1 y2 y3 y4 y5 y6 yl B
    obtain ⟨y0, y1, y2, y3, y4, y5, y6⟩ := Y.cells
    have yl := Y.lt
    obtain ⟨x0, x1, x2, x3, x4, x5, x6⟩ := X.cells
    have xl := X.lt
    obtain ⟨u0, u1, u2, u3, u4, u5, u6⟩ := U.cells
    have ul := U.lt
    go_wp2_with fail
    refine (H5.out _).mono ?_
    rintro e w5 ⟨rfl, hg5⟩
    have K := (AccAt.new w4 _ _ _ _ _ _ _ _ _ rfl).gr hg5
    have Y := Y.gr ((Gr.refl _).alloc.trans hg5)
    have X := X.gr ((Gr.refl _).alloc.trans hg5)
    have G := G.trans ((Gr.refl _).alloc.trans hg5)
    clear hg5 y0 y1 y2 y3 y4 y5 y6 yl x0 x1 x2 x3 x4 x5 x6 xl u0 u1 u2 u3 u4 u5 u6 ul U
    obtain ⟨y0, y1, y2, y3, y4, y5, y6⟩ := Y.cells
    have yl := Y.lt
    obtain ⟨x0, x1, x2, x3, x4, x5, x6⟩ := X.cells
    have xl := X.lt
    obtain ⟨u0, u1, u2, u3, u4, u5, u6⟩ := K.cells
    have ul := K.lt
    go_wp2_with fail
    refine (HA.out _).mono ?_
    rintro e w6 ⟨rfl, hg6⟩
    go_wp2
    go_ret
    exact ⟨rfl, G.trans hg6⟩
  · have H1 : Hid (∀ w', Calls Try.prog 16 #[.agg #[.string s, .int .i64 a, .int .i64 b, .int .i64 c, .int .i64 x, .int .i64 y, .int .i64 z], .agg #[.int .i64 k, .string t, .int .i64 n]] w' fun e w2 => e = .returned (.tuple #[.agg #[.string ⟨#[]⟩, .int .i64 0, .int .i64 0, .int .i64 0, .int .i64 0, .int .i64 0, .int .i64 0], .int .i64 (Act.mvE Act.chDo s a b c x y z k t n)]) ∧ Gr w' w2) := by
      intro w'
      have := actD_any s a b c x y z k n t w' hX.1 hT.2.1 hX.2.1.1.2 hX.2.1.2.2.2 hX.2.2.1.2 hX.2.2.2.2.2
      have hp : ∀ v, Pot.pick (Act.mvE Act.chDo s a b c x y z k t n) v = 0 := fun v => by unfold Pot.pick; rw [if_neg h]
      have hq : Act.pickS (Act.mvE Act.chDo s a b c x y z k t n) s = ⟨#[]⟩ := by unfold Act.pickS; rw [if_neg h]
      rw [hp, hp, hp, hp, hp, hp, hq] at this
      exact this
    have hne : (Act.mvE Act.chDo s a b c x y z k t n != 0) = true := by simpa using h
    generalize Act.mvE Act.chDo s a b c x y z k t n = er at *
    clear h hX hT
    go_enter Try.func5, Try.ntmps5
    go_wp2_with fail
    refine (H1.out _).mono ?_
    rintro e w1 ⟨rfl, hg1⟩
    have G : Gr w w1 := (by repeat (first | exact Gr.refl _ | refine Gr.alloc ?_ | refine Gr.drew ?_ | refine Gr.trans ?_ (by assumption)))
    clear hg1
    go_wp2_with fail
    refine (HA.out _).mono ?_
    rintro e w2 ⟨rfl, hg2⟩
    go_wp2
    go_ret
    exact ⟨rfl, G.trans ((Gr.refl _).alloc.trans hg2)⟩

set_option maxRecDepth 100000 in
theorem actUndone_lifted (os : Os) (started : os.Started) (H : Type) (enc : TypeId × Value → H) :
    ReturnsInHanded {} Try.checked os 5 .any (Rows.actUndoneSpec.pre6 enc Try.prog Try.f5 Rows.actUndoneRow.domain false) (Rows.actUndoneSpec.post enc Try.prog Try.f5 false true false false) := by
  refine returnsInHanded_of_change (C := Try.checked) own2 started (by kernel_rfl) Try.func5
    (ChangeSpec.witness6 (enc := enc) (C := Try.checked) false ⟨#[], #[.agg #[.string ⟨#[]⟩, .int .i64 0, .int .i64 0, .int .i64 0, .int .i64 0, .int .i64 0, .int .i64 0], .agg #[.int .i64 0, .string ⟨#[]⟩, .int .i64 0]], []⟩ 8 (by kernel_rfl) (by kernel_rfl) (by kernel_rfl) (by kernel_rfl)) ?_
  intro W base args ds gs before hval0 hW hcnd _
  have hval : ∀ (j : Nat) t v, Try.f5.params[j]? = some t → args[j]? = some v → Value.okWide Try.prog W .any base t v := hval0
  have hW' := hW
  obtain ⟨p, q, hA0, hV, rfl, hfz, hnd⟩ := hW
  have hA : DataW.TrodAll enc Try.prog W 0 (fun _ => true) true Try.f5.params.toList args.toList ds p := hA0
  rw [Try.params5] at hA hval
  obtain ⟨v0, v1, d0, d1, p0, p1, rfl, rfl, rfl, q0, q1⟩ := trodAll_two hA
  obtain ⟨rfl, rfl⟩ := trodVars_none hV
  have k0 := q0
  have lt0 : ∀ x ∈ p0, x.block < W.heap.size := by obtain ⟨m, hm⟩ := k0; exact DataW.trod_lt m _ _ _ hm
  have k1 := q1
  have lt1 : ∀ x ∈ p1, x.block < W.heap.size := by obtain ⟨m, hm⟩ := k1; exact DataW.trod_lt m _ _ _ hm
  obtain ⟨s0, a0, b0, c0, x0, y0, z0, rfl, hX0⟩ := open_acc (hval 0 27 v0 rfl rfl) q0
  obtain ⟨kd1, t1, n1, rfl, hT1⟩ := open_act (hval 1 23 v1 rfl rfl) q1
  clear hA0 hval0
  refine (actUndone_walk s0 a0 b0 c0 x0 y0 z0 kd1 n1 t1 W hX0 hT1).mono fun e W' ⟨he, hg⟩ => ?_
  subst he
  exact ⟨_, rfl, _, _, _, [], _, [], hW', trodAll_mk1 (shut_bool Try.underlying4 _), trodAll_mk2 (Below.trod laidOut2 (by kernel_rfl) (of_decide_eq_true (by kernel_rfl)) k0 hg.below lt0) (Below.trod laidOut2 (by kernel_rfl) (of_decide_eq_true (by kernel_rfl)) k1 hg.below lt1), rfl, hg.below.frame _, fun h => by cases h⟩

theorem actUndone_holds : Rows.ActUndoneSaid :=
  OpenClaim.holds_of_wide 5 Try.f5 rfl rfl rfl rfl rfl rfl rfl ⟨rfl, rfl, rfl, rfl, rfl⟩ rfl rfl rfl rfl rfl (by kernel_rfl) Try.func5 (by kernel_rfl)
    (of_decide_eq_true (by kernel_rfl)) (by unfold Func.isWrapper; first | (rw [if_pos (by decide +kernel)]; kernel_rfl) | (rw [if_neg (by decide +kernel)]; exact ⟨rfl, rfl⟩))
    (fun os started H enc _ => actUndone_lifted os started H enc)
end Go.Proofs.Ytbiagpjndbknaaa
