/- For every input the law ActDoes answers true: any activity is done on any account, and undone, and kept, as the document says, or refused. -/
import Derived.Test.YtbiagpjndbknaaaActK
import Derived.Test.YtbiagpjndbknaaaActR
import Derived.Test.YtbiagpjndbknaaaOpenA
namespace Go.Proofs.Ytbiagpjndbknaaa
open Go.ChangeShapes Go.WideShapes Go.ChangeAt Go.RowKit

set_option maxHeartbeats 8000000 in
set_option maxRecDepth 100000 in
theorem actDoes_walk (s : ByteArray) (a b c x y z k n : Int) (t : ByteArray) (w : World) (hX : inX s a b c x y z) (hT : inT k t n) :
    Calls Try.prog 4 #[.agg #[.string s, .int .i64 a, .int .i64 b, .int .i64 c, .int .i64 x, .int .i64 y, .int .i64 z], .agg #[.int .i64 k, .string t, .int .i64 n]] w fun e w' => e = .returned (.bool true) ∧ Gr w w' := by
  have HA : Hid (∀ w', Calls Try.prog 15 #[] w' fun e w2 => e = .returned (.bool true) ∧ Gr w' w2) := fun w' => awake_any w'
  have H1 : Hid (∀ w', Calls Try.prog 16 #[.agg #[.string s, .int .i64 a, .int .i64 b, .int .i64 c, .int .i64 x, .int .i64 y, .int .i64 z], .agg #[.int .i64 k, .string t, .int .i64 n]] w' fun e w2 => e = .returned (.tuple #[.agg #[.string (Act.pickS (Act.mvE Act.chDo s a b c x y z k t n) s), .int .i64 (Pot.pick (Act.mvE Act.chDo s a b c x y z k t n) (Act.chDo.h (Act.oF k) a b c n)), .int .i64 (Pot.pick (Act.mvE Act.chDo s a b c x y z k t n) (Act.chDo.i (Act.oF k) a b c n)), .int .i64 (Pot.pick (Act.mvE Act.chDo s a b c x y z k t n) (Act.chDo.o (Act.oF k) a b c n)), .int .i64 (Pot.pick (Act.mvE Act.chDo s a b c x y z k t n) (Act.hK Act.chDo k x y z n)), .int .i64 (Pot.pick (Act.mvE Act.chDo s a b c x y z k t n) (Act.iK Act.chDo k x y z n)), .int .i64 (Pot.pick (Act.mvE Act.chDo s a b c x y z k t n) (Act.uK Act.chDo k x y z n))], .int .i64 (Act.mvE Act.chDo s a b c x y z k t n)]) ∧ Gr w' w2) := fun w' => actD_any s a b c x y z k n t w' hX.1 hT.2.1 hX.2.1.1.2 hX.2.1.2.2.2 hX.2.2.1.2 hX.2.2.2.2.2
  have H2 : Hid (∀ w', Calls Try.prog 17 #[.int .i64 1, .agg #[.string s, .int .i64 a, .int .i64 b, .int .i64 c, .int .i64 x, .int .i64 y, .int .i64 z], .agg #[.int .i64 k, .string t, .int .i64 n]] w' fun e w2 => e = .returned (.tuple #[.agg #[.string (Act.pickS (Act.mvE Act.chDo s a b c x y z k t n) s), .int .i64 (Pot.pick (Act.mvE Act.chDo s a b c x y z k t n) (Act.chDo.h (Act.oF k) a b c n)), .int .i64 (Pot.pick (Act.mvE Act.chDo s a b c x y z k t n) (Act.chDo.i (Act.oF k) a b c n)), .int .i64 (Pot.pick (Act.mvE Act.chDo s a b c x y z k t n) (Act.chDo.o (Act.oF k) a b c n)), .int .i64 (Pot.pick (Act.mvE Act.chDo s a b c x y z k t n) (Act.hK Act.chDo k x y z n)), .int .i64 (Pot.pick (Act.mvE Act.chDo s a b c x y z k t n) (Act.iK Act.chDo k x y z n)), .int .i64 (Pot.pick (Act.mvE Act.chDo s a b c x y z k t n) (Act.uK Act.chDo k x y z n))], .int .i64 (Act.mvE Act.chDo s a b c x y z k t n)]) ∧ Gr w' w2) := fun w' => refDoes_any 1 Act.chDo s a b c x y z k n t w' hX.1 hT.2.1 (fun h i o out w2 => refPot1_any h i o n out w2)
  have H3 : Hid (∀ w', Calls Try.prog 18 #[.agg #[.string s, .int .i64 a, .int .i64 b, .int .i64 c, .int .i64 x, .int .i64 y, .int .i64 z], .agg #[.int .i64 k, .string t, .int .i64 n]] w' fun e w2 => e = .returned (.tuple #[.agg #[.string (Act.pickS (Act.mvE Act.chUn s a b c x y z k t n) s), .int .i64 (Pot.pick (Act.mvE Act.chUn s a b c x y z k t n) (Act.chUn.h (Act.oF k) a b c n)), .int .i64 (Pot.pick (Act.mvE Act.chUn s a b c x y z k t n) (Act.chUn.i (Act.oF k) a b c n)), .int .i64 (Pot.pick (Act.mvE Act.chUn s a b c x y z k t n) (Act.chUn.o (Act.oF k) a b c n)), .int .i64 (Pot.pick (Act.mvE Act.chUn s a b c x y z k t n) (Act.hK Act.chUn k x y z n)), .int .i64 (Pot.pick (Act.mvE Act.chUn s a b c x y z k t n) (Act.iK Act.chUn k x y z n)), .int .i64 (Pot.pick (Act.mvE Act.chUn s a b c x y z k t n) (Act.uK Act.chUn k x y z n))], .int .i64 (Act.mvE Act.chUn s a b c x y z k t n)]) ∧ Gr w' w2) := fun w' => actU_any s a b c x y z k n t w' hX.1 hT.2.1 hX.2.1.1.2 hX.2.1.2.2.2 hX.2.2.1.2 hX.2.2.2.2.2
  have H4 : Hid (∀ w', Calls Try.prog 17 #[.int .i64 2, .agg #[.string s, .int .i64 a, .int .i64 b, .int .i64 c, .int .i64 x, .int .i64 y, .int .i64 z], .agg #[.int .i64 k, .string t, .int .i64 n]] w' fun e w2 => e = .returned (.tuple #[.agg #[.string (Act.pickS (Act.mvE Act.chUn s a b c x y z k t n) s), .int .i64 (Pot.pick (Act.mvE Act.chUn s a b c x y z k t n) (Act.chUn.h (Act.oF k) a b c n)), .int .i64 (Pot.pick (Act.mvE Act.chUn s a b c x y z k t n) (Act.chUn.i (Act.oF k) a b c n)), .int .i64 (Pot.pick (Act.mvE Act.chUn s a b c x y z k t n) (Act.chUn.o (Act.oF k) a b c n)), .int .i64 (Pot.pick (Act.mvE Act.chUn s a b c x y z k t n) (Act.hK Act.chUn k x y z n)), .int .i64 (Pot.pick (Act.mvE Act.chUn s a b c x y z k t n) (Act.iK Act.chUn k x y z n)), .int .i64 (Pot.pick (Act.mvE Act.chUn s a b c x y z k t n) (Act.uK Act.chUn k x y z n))], .int .i64 (Act.mvE Act.chUn s a b c x y z k t n)]) ∧ Gr w' w2) := fun w' => refDoes_any 2 Act.chUn s a b c x y z k n t w' hX.1 hT.2.1 (fun h i o out w2 => refPot2_any h i o n out w2)
  have H5 : Hid (∀ w', Calls Try.prog 19 #[.agg #[.string s, .int .i64 a, .int .i64 b, .int .i64 c, .int .i64 x, .int .i64 y, .int .i64 z], .agg #[.int .i64 k, .string t, .int .i64 n]] w' fun e w2 => e = .returned (.tuple #[.agg #[.string (Act.pickS (Act.mvE Act.chKe s a b c x y z k t n) s), .int .i64 (Pot.pick (Act.mvE Act.chKe s a b c x y z k t n) (Act.chKe.h (Act.oF k) a b c n)), .int .i64 (Pot.pick (Act.mvE Act.chKe s a b c x y z k t n) (Act.chKe.i (Act.oF k) a b c n)), .int .i64 (Pot.pick (Act.mvE Act.chKe s a b c x y z k t n) (Act.chKe.o (Act.oF k) a b c n)), .int .i64 (Pot.pick (Act.mvE Act.chKe s a b c x y z k t n) (Act.hK Act.chKe k x y z n)), .int .i64 (Pot.pick (Act.mvE Act.chKe s a b c x y z k t n) (Act.iK Act.chKe k x y z n)), .int .i64 (Pot.pick (Act.mvE Act.chKe s a b c x y z k t n) (Act.uK Act.chKe k x y z n))], .int .i64 (Act.mvE Act.chKe s a b c x y z k t n)]) ∧ Gr w' w2) := fun w' => actK_any s a b c x y z k n t w' hX.1 hT.2.1 hX.2.1.1.2 hX.2.1.2.2.2 hX.2.2.1.2 hX.2.2.2.2.2
  have H6 : Hid (∀ w', Calls Try.prog 17 #[.int .i64 3, .agg #[.string s, .int .i64 a, .int .i64 b, .int .i64 c, .int .i64 x, .int .i64 y, .int .i64 z], .agg #[.int .i64 k, .string t, .int .i64 n]] w' fun e w2 => e = .returned (.tuple #[.agg #[.string (Act.pickS (Act.mvE Act.chKe s a b c x y z k t n) s), .int .i64 (Pot.pick (Act.mvE Act.chKe s a b c x y z k t n) (Act.chKe.h (Act.oF k) a b c n)), .int .i64 (Pot.pick (Act.mvE Act.chKe s a b c x y z k t n) (Act.chKe.i (Act.oF k) a b c n)), .int .i64 (Pot.pick (Act.mvE Act.chKe s a b c x y z k t n) (Act.chKe.o (Act.oF k) a b c n)), .int .i64 (Pot.pick (Act.mvE Act.chKe s a b c x y z k t n) (Act.hK Act.chKe k x y z n)), .int .i64 (Pot.pick (Act.mvE Act.chKe s a b c x y z k t n) (Act.iK Act.chKe k x y z n)), .int .i64 (Pot.pick (Act.mvE Act.chKe s a b c x y z k t n) (Act.uK Act.chKe k x y z n))], .int .i64 (Act.mvE Act.chKe s a b c x y z k t n)]) ∧ Gr w' w2) := fun w' => refDoes_any 3 Act.chKe s a b c x y z k n t w' hX.1 hT.2.1 (fun h i o out w2 => refPot3_any h i o n out w2)
  generalize Pot.pick (Act.mvE Act.chDo s a b c x y z k t n) (Act.chDo.h (Act.oF k) a b c n) = r01 at *
  generalize Pot.pick (Act.mvE Act.chDo s a b c x y z k t n) (Act.chDo.i (Act.oF k) a b c n) = r02 at *
  generalize Pot.pick (Act.mvE Act.chDo s a b c x y z k t n) (Act.chDo.o (Act.oF k) a b c n) = r03 at *
  generalize Pot.pick (Act.mvE Act.chDo s a b c x y z k t n) (Act.hK Act.chDo k x y z n) = r04 at *
  generalize Pot.pick (Act.mvE Act.chDo s a b c x y z k t n) (Act.iK Act.chDo k x y z n) = r05 at *
  generalize Pot.pick (Act.mvE Act.chDo s a b c x y z k t n) (Act.uK Act.chDo k x y z n) = r06 at *
  generalize Act.pickS (Act.mvE Act.chDo s a b c x y z k t n) s = r00 at *
  generalize Act.mvE Act.chDo s a b c x y z k t n = e0 at *
  have q0 : (e0 == e0) = true := by simp
  generalize Pot.pick (Act.mvE Act.chUn s a b c x y z k t n) (Act.chUn.h (Act.oF k) a b c n) = r11 at *
  generalize Pot.pick (Act.mvE Act.chUn s a b c x y z k t n) (Act.chUn.i (Act.oF k) a b c n) = r12 at *
  generalize Pot.pick (Act.mvE Act.chUn s a b c x y z k t n) (Act.chUn.o (Act.oF k) a b c n) = r13 at *
  generalize Pot.pick (Act.mvE Act.chUn s a b c x y z k t n) (Act.hK Act.chUn k x y z n) = r14 at *
  generalize Pot.pick (Act.mvE Act.chUn s a b c x y z k t n) (Act.iK Act.chUn k x y z n) = r15 at *
  generalize Pot.pick (Act.mvE Act.chUn s a b c x y z k t n) (Act.uK Act.chUn k x y z n) = r16 at *
  generalize Act.pickS (Act.mvE Act.chUn s a b c x y z k t n) s = r10 at *
  generalize Act.mvE Act.chUn s a b c x y z k t n = e1 at *
  have q1 : (e1 == e1) = true := by simp
  generalize Pot.pick (Act.mvE Act.chKe s a b c x y z k t n) (Act.chKe.h (Act.oF k) a b c n) = r21 at *
  generalize Pot.pick (Act.mvE Act.chKe s a b c x y z k t n) (Act.chKe.i (Act.oF k) a b c n) = r22 at *
  generalize Pot.pick (Act.mvE Act.chKe s a b c x y z k t n) (Act.chKe.o (Act.oF k) a b c n) = r23 at *
  generalize Pot.pick (Act.mvE Act.chKe s a b c x y z k t n) (Act.hK Act.chKe k x y z n) = r24 at *
  generalize Pot.pick (Act.mvE Act.chKe s a b c x y z k t n) (Act.iK Act.chKe k x y z n) = r25 at *
  generalize Pot.pick (Act.mvE Act.chKe s a b c x y z k t n) (Act.uK Act.chKe k x y z n) = r26 at *
  generalize Act.pickS (Act.mvE Act.chKe s a b c x y z k t n) s = r20 at *
  generalize Act.mvE Act.chKe s a b c x y z k t n = e2 at *
  have q2 : (e2 == e2) = true := by simp
  clear hX hT
  go_enter Try.func4, Try.ntmps4
  go_wp2_with fail
  refine (H1.out _).mono ?_
  rintro e w1 ⟨rfl, hg1⟩
  have X := ((AccAt.new w _ _ _ _ _ _ _ _ w.heap.size rfl).gr (Gr.refl _).alloc).gr hg1
  have B := (BoxAt.new _ _ _ _ _ (w.heap.size + 1) (by simp)).gr hg1
  have G : Gr w w1 := (by repeat (first | exact Gr.refl _ | refine Gr.alloc ?_ | refine Gr.drew ?_ | refine Gr.trans ?_ (by assumption)))
  clear hg1
  obtain ⟨x0, x1, x2, x3, x4, x5, x6⟩ := X.cells
  have xl := X.lt
  obtain ⟨b0, b1, b2, _, _, _, bl⟩ := id B
  go_wp2_with fail
  refine (H2.out _).mono ?_
  rintro e w2 ⟨rfl, hg2⟩
  clear x0 x1 x2 x3 x4 x5 x6 xl b0 b1 b2 bl
  have X := X.gr ((Gr.refl _).alloc.trans hg2)
  have B := B.gr ((Gr.refl _).alloc.trans hg2)
  have G := G.trans ((Gr.refl _).alloc.trans hg2)
  have R1 := (AccAt.new w1 _ _ _ _ _ _ _ _ _ rfl).gr hg2
  clear hg2
  obtain ⟨x0, x1, x2, x3, x4, x5, x6⟩ := X.cells
  have xl := X.lt
  obtain ⟨b0, b1, b2, _, _, _, bl⟩ := id B
  go_wp2_with fail
  refine (H3.out _).mono ?_
  rintro e w3 ⟨rfl, hg3⟩
  clear x0 x1 x2 x3 x4 x5 x6 xl b0 b1 b2 bl
  have X := X.gr ((Gr.refl _).alloc.trans hg3)
  have B := B.gr ((Gr.refl _).alloc.trans hg3)
  have G := G.trans ((Gr.refl _).alloc.trans hg3)
  have R1 := R1.gr ((Gr.refl _).alloc.trans hg3)
  have R2 := (AccAt.new w2 _ _ _ _ _ _ _ _ _ rfl).gr hg3
  clear hg3
  obtain ⟨x0, x1, x2, x3, x4, x5, x6⟩ := X.cells
  have xl := X.lt
  obtain ⟨b0, b1, b2, _, _, _, bl⟩ := id B
  go_wp2_with fail
  refine (H4.out _).mono ?_
  rintro e w4 ⟨rfl, hg4⟩
  clear x0 x1 x2 x3 x4 x5 x6 xl b0 b1 b2 bl
  have X := X.gr ((Gr.refl _).alloc.trans hg4)
  have B := B.gr ((Gr.refl _).alloc.trans hg4)
  have G := G.trans ((Gr.refl _).alloc.trans hg4)
  have R1 := R1.gr ((Gr.refl _).alloc.trans hg4)
  have R2 := R2.gr ((Gr.refl _).alloc.trans hg4)
  have R3 := (AccAt.new w3 _ _ _ _ _ _ _ _ _ rfl).gr hg4
  clear hg4
  obtain ⟨x0, x1, x2, x3, x4, x5, x6⟩ := X.cells
  have xl := X.lt
  obtain ⟨b0, b1, b2, _, _, _, bl⟩ := id B
  go_wp2_with fail
  refine (H5.out _).mono ?_
  rintro e w5 ⟨rfl, hg5⟩
  clear x0 x1 x2 x3 x4 x5 x6 xl b0 b1 b2 bl
  have X := X.gr ((Gr.refl _).alloc.trans hg5)
  have B := B.gr ((Gr.refl _).alloc.trans hg5)
  have G := G.trans ((Gr.refl _).alloc.trans hg5)
  have R1 := R1.gr ((Gr.refl _).alloc.trans hg5)
  have R2 := R2.gr ((Gr.refl _).alloc.trans hg5)
  have R3 := R3.gr ((Gr.refl _).alloc.trans hg5)
  have R4 := (AccAt.new w4 _ _ _ _ _ _ _ _ _ rfl).gr hg5
  clear hg5
  obtain ⟨x0, x1, x2, x3, x4, x5, x6⟩ := X.cells
  have xl := X.lt
  obtain ⟨b0, b1, b2, _, _, _, bl⟩ := id B
  go_wp2_with fail
  refine (H6.out _).mono ?_
  rintro e w6 ⟨rfl, hg6⟩
  clear x0 x1 x2 x3 x4 x5 x6 xl b0 b1 b2 bl
  have X := X.gr ((Gr.refl _).alloc.trans hg6)
  have B := B.gr ((Gr.refl _).alloc.trans hg6)
  have G := G.trans ((Gr.refl _).alloc.trans hg6)
  have R1 := R1.gr ((Gr.refl _).alloc.trans hg6)
  have R2 := R2.gr ((Gr.refl _).alloc.trans hg6)
  have R3 := R3.gr ((Gr.refl _).alloc.trans hg6)
  have R4 := R4.gr ((Gr.refl _).alloc.trans hg6)
  have R5 := (AccAt.new w5 _ _ _ _ _ _ _ _ _ rfl).gr hg6
  clear hg6
  obtain ⟨x0, x1, x2, x3, x4, x5, x6⟩ := X.cells
  have xl := X.lt
  obtain ⟨b0, b1, b2, _, _, _, bl⟩ := id B
  obtain ⟨r10, r11, r12, r13, r14, r15, r16⟩ := R1.cells
  have r1l := R1.lt
  obtain ⟨r20, r21, r22, r23, r24, r25, r26⟩ := R2.cells
  have r2l := R2.lt
  obtain ⟨r30, r31, r32, r33, r34, r35, r36⟩ := R3.cells
  have r3l := R3.lt
  obtain ⟨r40, r41, r42, r43, r44, r45, r46⟩ := R4.cells
  have r4l := R4.lt
  obtain ⟨r50, r51, r52, r53, r54, r55, r56⟩ := R5.cells
  have r5l := R5.lt
  go_wp2_with fail
  refine (HA.out _).mono ?_
  rintro e w7 ⟨rfl, hg7⟩
  go_wp2
  go_ret
  exact ⟨rfl, G.trans ((Gr.refl _).alloc.trans hg7)⟩

set_option maxRecDepth 100000 in
theorem actDoes_lifted (os : Os) (started : os.Started) (H : Type) (enc : TypeId × Value → H) :
    ReturnsInHanded {} Try.checked os 4 .any (Rows.actDoesSpec.pre6 enc Try.prog Try.f4 Rows.actDoesRow.domain false) (Rows.actDoesSpec.post enc Try.prog Try.f4 false true false false) := by
  refine returnsInHanded_of_change (C := Try.checked) own2 started (by kernel_rfl) Try.func4
    (ChangeSpec.witness6 (enc := enc) (C := Try.checked) false ⟨#[], #[.agg #[.string ⟨#[]⟩, .int .i64 0, .int .i64 0, .int .i64 0, .int .i64 0, .int .i64 0, .int .i64 0], .agg #[.int .i64 0, .string ⟨#[]⟩, .int .i64 0]], []⟩ 8 (by kernel_rfl) (by kernel_rfl) (by kernel_rfl) (by kernel_rfl)) ?_
  intro W base args ds gs before hval0 hW hcnd _
  have hval : ∀ (j : Nat) t v, Try.f4.params[j]? = some t → args[j]? = some v → Value.okWide Try.prog W .any base t v := hval0
  have hW' := hW
  obtain ⟨p, q, hA0, hV, rfl, hfz, hnd⟩ := hW
  have hA : DataW.TrodAll enc Try.prog W 0 (fun _ => true) true Try.f4.params.toList args.toList ds p := hA0
  rw [Try.params4] at hA hval
  obtain ⟨v0, v1, d0, d1, p0, p1, rfl, rfl, rfl, q0, q1⟩ := trodAll_two hA
  obtain ⟨rfl, rfl⟩ := trodVars_none hV
  have k0 := q0
  have lt0 : ∀ x ∈ p0, x.block < W.heap.size := by obtain ⟨m, hm⟩ := k0; exact DataW.trod_lt m _ _ _ hm
  have k1 := q1
  have lt1 : ∀ x ∈ p1, x.block < W.heap.size := by obtain ⟨m, hm⟩ := k1; exact DataW.trod_lt m _ _ _ hm
  obtain ⟨s0, a0, b0, c0, x0, y0, z0, rfl, hX0⟩ := open_acc (hval 0 27 v0 rfl rfl) q0
  obtain ⟨kd1, t1, n1, rfl, hT1⟩ := open_act (hval 1 23 v1 rfl rfl) q1
  clear hA0 hval0
  refine (actDoes_walk s0 a0 b0 c0 x0 y0 z0 kd1 n1 t1 W hX0 hT1).mono fun e W' ⟨he, hg⟩ => ?_
  subst he
  exact ⟨_, rfl, _, _, _, [], _, [], hW', trodAll_mk1 (shut_bool Try.underlying4 _), trodAll_mk2 (Below.trod laidOut2 (by kernel_rfl) (of_decide_eq_true (by kernel_rfl)) k0 hg.below lt0) (Below.trod laidOut2 (by kernel_rfl) (of_decide_eq_true (by kernel_rfl)) k1 hg.below lt1), rfl, hg.below.frame _, fun h => by cases h⟩

theorem actDoes_holds : Rows.ActDoesSaid :=
  OpenClaim.holds_of_wide 4 Try.f4 rfl rfl rfl rfl rfl rfl rfl ⟨rfl, rfl, rfl, rfl, rfl⟩ rfl rfl rfl rfl rfl (by kernel_rfl) Try.func4 (by kernel_rfl)
    (of_decide_eq_true (by kernel_rfl)) (by unfold Func.isWrapper; first | (rw [if_pos (by decide +kernel)]; kernel_rfl) | (rw [if_neg (by decide +kernel)]; exact ⟨rfl, rfl⟩))
    (fun os started H enc _ => actDoes_lifted os started H enc)
end Go.Proofs.Ytbiagpjndbknaaa
