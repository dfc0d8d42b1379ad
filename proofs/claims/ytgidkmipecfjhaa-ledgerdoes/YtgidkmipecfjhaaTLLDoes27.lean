/- What the proof is made of, part 27. -/
import Derived.Test.YtgidkmipecfjhaaTLLDoes26
namespace Go.Proofs.Ytgidkmipecfjhaa
open Go.RowKit
set_option maxHeartbeats 1000000 in
theorem refPot1_any (h i o n : Int) (out : Bool) (w : World) :
    Calls Try.prog 85 #[.int .i64 1, .agg #[.int .i64 h, .int .i64 i, .int .i64 o], .bool out, .int .i64 n] w fun e w' => e = .returned (.tuple #[.agg #[.int .i64 (Act.chDo.h out h i o n), .int .i64 (Act.chDo.i out h i o n), .int .i64 (Act.chDo.o out h i o n)], .int .i64 (Act.chDo.e out h i o n)]) ∧ Gr w w' := by
  have HP : Hid (∀ w', Calls Try.prog 98 #[.agg #[.int .i64 h, .int .i64 i, .int .i64 o], .bool out, .int .i64 n] w' fun e w2 => e = .returned (.tuple #[.agg #[.int .i64 (Act.chDo.h out h i o n), .int .i64 (Act.chDo.i out h i o n), .int .i64 (Act.chDo.o out h i o n)], .int .i64 (Act.chDo.e out h i o n)]) ∧ Gr w' w2) := fun w' => refDo_any h i o n out w'
  generalize Act.chDo.h out h i o n = r0 at *
  generalize Act.chDo.i out h i o n = r1 at *
  generalize Act.chDo.o out h i o n = r2 at *
  generalize Act.chDo.e out h i o n = er at *
  go_enter Try.func85, Try.ntmps85
  go_wp2_with fail
  refine (HP.out _).mono ?_
  rintro e w1 ⟨rfl, hg1⟩
  have R := (BoxAt.new _ _ _ _ _ (w.heap.size + 1) (by simp)).gr hg1
  obtain ⟨b0, b1, b2, f0, f1, f2, rl⟩ := R
  have g1 : Gr w w1 := (by repeat (first | exact Gr.refl _ | refine Gr.alloc ?_ | refine Gr.drew ?_ | refine Gr.trans ?_ (by assumption)))
  clear hg1
  go_wp2
  exact bodyPost_ret (v := .tuple #[.agg #[.int .i64 r0, .int .i64 r1, .int .i64 r2], .int .i64 er]) (by simp [results, Try.results85, go_sem, *]) rfl ⟨rfl, ((g1.set _ (by simp) _).set _ (by simp) _).set _ (by simp) _⟩
set_option maxHeartbeats 1000000 in
theorem refPot2_any (h i o n : Int) (out : Bool) (w : World) :
    Calls Try.prog 85 #[.int .i64 2, .agg #[.int .i64 h, .int .i64 i, .int .i64 o], .bool out, .int .i64 n] w fun e w' => e = .returned (.tuple #[.agg #[.int .i64 (Act.chUn.h out h i o n), .int .i64 (Act.chUn.i out h i o n), .int .i64 (Act.chUn.o out h i o n)], .int .i64 (Act.chUn.e out h i o n)]) ∧ Gr w w' := by
  have HP : Hid (∀ w', Calls Try.prog 99 #[.agg #[.int .i64 h, .int .i64 i, .int .i64 o], .bool out, .int .i64 n] w' fun e w2 => e = .returned (.tuple #[.agg #[.int .i64 (Act.chUn.h out h i o n), .int .i64 (Act.chUn.i out h i o n), .int .i64 (Act.chUn.o out h i o n)], .int .i64 (Act.chUn.e out h i o n)]) ∧ Gr w' w2) := fun w' => refUndo_any h i o n out w'
  generalize Act.chUn.h out h i o n = r0 at *
  generalize Act.chUn.i out h i o n = r1 at *
  generalize Act.chUn.o out h i o n = r2 at *
  generalize Act.chUn.e out h i o n = er at *
  go_enter Try.func85, Try.ntmps85
  go_wp2_with fail
  refine (HP.out _).mono ?_
  rintro e w1 ⟨rfl, hg1⟩
  have R := (BoxAt.new _ _ _ _ _ (w.heap.size + 1) (by simp)).gr hg1
  obtain ⟨b0, b1, b2, f0, f1, f2, rl⟩ := R
  have g1 : Gr w w1 := (by repeat (first | exact Gr.refl _ | refine Gr.alloc ?_ | refine Gr.drew ?_ | refine Gr.trans ?_ (by assumption)))
  clear hg1
  go_wp2
  exact bodyPost_ret (v := .tuple #[.agg #[.int .i64 r0, .int .i64 r1, .int .i64 r2], .int .i64 er]) (by simp [results, Try.results85, go_sem, *]) rfl ⟨rfl, ((g1.set _ (by simp) _).set _ (by simp) _).set _ (by simp) _⟩
set_option maxHeartbeats 1000000 in
theorem refPot3_any (h i o n : Int) (out : Bool) (w : World) :
    Calls Try.prog 85 #[.int .i64 3, .agg #[.int .i64 h, .int .i64 i, .int .i64 o], .bool out, .int .i64 n] w fun e w' => e = .returned (.tuple #[.agg #[.int .i64 (Act.chKe.h out h i o n), .int .i64 (Act.chKe.i out h i o n), .int .i64 (Act.chKe.o out h i o n)], .int .i64 (Act.chKe.e out h i o n)]) ∧ Gr w w' := by
  have HP : Hid (∀ w', Calls Try.prog 100 #[.agg #[.int .i64 h, .int .i64 i, .int .i64 o], .bool out, .int .i64 n] w' fun e w2 => e = .returned (.tuple #[.agg #[.int .i64 (Act.chKe.h out h i o n), .int .i64 (Act.chKe.i out h i o n), .int .i64 (Act.chKe.o out h i o n)], .int .i64 (Act.chKe.e out h i o n)]) ∧ Gr w' w2) := fun w' => refKeep_any h i o n out w'
  generalize Act.chKe.h out h i o n = r0 at *
  generalize Act.chKe.i out h i o n = r1 at *
  generalize Act.chKe.o out h i o n = r2 at *
  generalize Act.chKe.e out h i o n = er at *
  go_enter Try.func85, Try.ntmps85
  go_wp2_with fail
  refine (HP.out _).mono ?_
  rintro e w1 ⟨rfl, hg1⟩
  have R := (BoxAt.new _ _ _ _ _ (w.heap.size + 1) (by simp)).gr hg1
  obtain ⟨b0, b1, b2, f0, f1, f2, rl⟩ := R
  have g1 : Gr w w1 := (by repeat (first | exact Gr.refl _ | refine Gr.alloc ?_ | refine Gr.drew ?_ | refine Gr.trans ?_ (by assumption)))
  clear hg1
  go_wp2
  exact bodyPost_ret (v := .tuple #[.agg #[.int .i64 r0, .int .i64 r1, .int .i64 r2], .int .i64 er]) (by simp [results, Try.results85, go_sem, *]) rfl ⟨rfl, ((g1.set _ (by simp) _).set _ (by simp) _).set _ (by simp) _⟩
set_option maxHeartbeats 8000000 in
set_option maxRecDepth 100000 in
theorem refDoes_any (v : Int) (C : Act.Ch) (s : ByteArray) (a b c x y z : Int) (k n : Int) (t : ByteArray) (w : World) (hs : s.size ≤ 9223372036854775807) (ht : t.size ≤ 9223372036854775807)
    (HP : Hid (∀ (h i o : Int) (out : Bool) (w' : World), Calls Try.prog 85 #[.int .i64 v, .agg #[.int .i64 h, .int .i64 i, .int .i64 o], .bool out, .int .i64 n] w' fun e w2 => e = .returned (.tuple #[.agg #[.int .i64 (C.h out h i o n), .int .i64 (C.i out h i o n), .int .i64 (C.o out h i o n)], .int .i64 (C.e out h i o n)]) ∧ Gr w' w2)) :
    Calls Try.prog 58 #[.int .i64 v, .agg #[.string s, .int .i64 a, .int .i64 b, .int .i64 c, .int .i64 x, .int .i64 y, .int .i64 z], .agg #[.int .i64 k, .string t, .int .i64 n]] w fun e w' => e = .returned (.tuple #[.agg #[.string (Act.pickS (Act.mvE C s a b c x y z k t n) s), .int .i64 (Pot.pick (Act.mvE C s a b c x y z k t n) (C.h (Act.oF k) a b c n)), .int .i64 (Pot.pick (Act.mvE C s a b c x y z k t n) (C.i (Act.oF k) a b c n)), .int .i64 (Pot.pick (Act.mvE C s a b c x y z k t n) (C.o (Act.oF k) a b c n)), .int .i64 (Pot.pick (Act.mvE C s a b c x y z k t n) (Act.hK C k x y z n)), .int .i64 (Pot.pick (Act.mvE C s a b c x y z k t n) (Act.iK C k x y z n)), .int .i64 (Pot.pick (Act.mvE C s a b c x y z k t n) (Act.uK C k x y z n))], .int .i64 (Act.mvE C s a b c x y z k t n)]) ∧ Gr w w' := by
  have HM : Hid (∀ w', Calls Try.prog 45 #[.agg #[.string s, .int .i64 a, .int .i64 b, .int .i64 c, .int .i64 x, .int .i64 y, .int .i64 z]] w' fun e w2 => e = .returned (.int .i64 (Act.mayE s a b c x y z)) ∧ Gr w' w2) := fun w' => refMay_any s a b c x y z w' hs
  have HC : Hid (∀ w', Calls Try.prog 44 #[.agg #[.int .i64 k, .string t, .int .i64 n]] w' fun e w2 => e = .returned (.int .i64 (Act.chkE k t n)) ∧ Gr w' w2) := fun w' => refActCheck_any k n t w' ht
  have hq := eqB t s
  clear hs ht
  have hnot : ∀ er : Int, er ≠ 0 → Act.fitE s a b c x y z k t n = er → Hid (((.tuple #[.agg #[.string (Act.pickS (Act.mvE C s a b c x y z k t n) s), .int .i64 (Pot.pick (Act.mvE C s a b c x y z k t n) (C.h (Act.oF k) a b c n)), .int .i64 (Pot.pick (Act.mvE C s a b c x y z k t n) (C.i (Act.oF k) a b c n)), .int .i64 (Pot.pick (Act.mvE C s a b c x y z k t n) (C.o (Act.oF k) a b c n)), .int .i64 (Pot.pick (Act.mvE C s a b c x y z k t n) (Act.hK C k x y z n)), .int .i64 (Pot.pick (Act.mvE C s a b c x y z k t n) (Act.iK C k x y z n)), .int .i64 (Pot.pick (Act.mvE C s a b c x y z k t n) (Act.uK C k x y z n))], .int .i64 (Act.mvE C s a b c x y z k t n)]) : Value) = (.tuple #[.agg #[.string ⟨#[]⟩, .int .i64 0, .int .i64 0, .int .i64 0, .int .i64 0, .int .i64 0, .int .i64 0], .int .i64 er])) := by
    intro er hne hfe
    have hE : Act.mvE C s a b c x y z k t n = er := by unfold Act.mvE; rw [hfe, if_neg hne]
    have hp : ∀ v, Pot.pick er v = 0 := fun v => by unfold Pot.pick; rw [if_neg hne]
    have hq : Act.pickS er s = ⟨#[]⟩ := by unfold Act.pickS; rw [if_neg hne]
    show _ = _
    rw [hE, hp, hp, hp, hp, hp, hp, hq]
  cases hacc : Act.accB s a b c x y z with
  | false =>
    have HE := hnot 2 (by decide) (by unfold Act.fitE; rw [hacc]; rfl)
    rw [Act.may_no hacc] at HM
    rw [HE.out]
    clear hnot hq HC HP hacc HE
    go_enter Try.func58, Try.ntmps58
    go_wp2_with fail
    refine (HM.out _).mono ?_
    rintro e w1 ⟨rfl, hg1⟩
    have R := (AccAt.new _ _ _ _ _ _ _ _ _ (w.heap.size + 1 + 1) (by simp)).gr hg1
    have X := (((AccAt.new w _ _ _ _ _ _ _ _ w.heap.size rfl).gr (Gr.refl _).alloc).gr (Gr.refl _).alloc).gr hg1
    have B := ((BoxAt.new _ _ _ _ _ (w.heap.size + 1) (by simp)).gr (Gr.refl _).alloc).gr hg1
    have G : Gr w w1 := (by repeat (first | exact Gr.refl _ | refine Gr.alloc ?_ | refine Gr.drew ?_ | refine Gr.trans ?_ (by assumption)))
    clear hg1
    obtain ⟨r0, r1, r2, r3, r4, r5, r6⟩ := R.cells
    obtain ⟨f0, f1, f2, f3, f4, f5, f6⟩ := R.frozens
    have rl := R.lt
    go_wp2
    exact bodyPost_ret (v := .tuple #[.agg #[.string ⟨#[]⟩, .int .i64 0, .int .i64 0, .int .i64 0, .int .i64 0, .int .i64 0, .int .i64 0], .int .i64 2]) (by simp [results, Try.results58, go_sem, *]) rfl ⟨rfl, G.set7 _ (by omega) _ _ _ _ _ _ _⟩
  | true =>
    rw [Act.may_yes hacc] at HM
    cases hact : Act.actB k t n with
    | false =>
      have HE := hnot 60 (by decide) (by unfold Act.fitE; rw [hacc, hact]; rfl)
      rw [Act.chk_no hact] at HC
      rw [HE.out]
      clear hnot hq HP hacc HE hact
      go_enter Try.func58, Try.ntmps58
      go_wp2_with fail
      refine (HM.out _).mono ?_
      rintro e w1 ⟨rfl, hg1⟩
      have R := (AccAt.new _ _ _ _ _ _ _ _ _ (w.heap.size + 1 + 1) (by simp)).gr hg1
      have X := (((AccAt.new w _ _ _ _ _ _ _ _ w.heap.size rfl).gr (Gr.refl _).alloc).gr (Gr.refl _).alloc).gr hg1
      have B := ((BoxAt.new _ _ _ _ _ (w.heap.size + 1) (by simp)).gr (Gr.refl _).alloc).gr hg1
      have G : Gr w w1 := (by repeat (first | exact Gr.refl _ | refine Gr.alloc ?_ | refine Gr.drew ?_ | refine Gr.trans ?_ (by assumption)))
      clear hg1
      obtain ⟨b0, b1, b2, _, _, _, bl⟩ := id B
      go_wp2_with fail
      refine (HC.out _).mono ?_
      rintro e w2 ⟨rfl, hg2⟩
      have R := R.gr hg2
      have X := X.gr hg2
      have B := B.gr hg2
      have G := G.trans hg2
      clear hg2
      clear b0 b1 b2 bl
      obtain ⟨r0, r1, r2, r3, r4, r5, r6⟩ := R.cells
      obtain ⟨f0, f1, f2, f3, f4, f5, f6⟩ := R.frozens
      have rl := R.lt
      go_wp2
      exact bodyPost_ret (v := .tuple #[.agg #[.string ⟨#[]⟩, .int .i64 0, .int .i64 0, .int .i64 0, .int .i64 0, .int .i64 0, .int .i64 0], .int .i64 60]) (by simp [results, Try.results58, go_sem, *]) rfl ⟨rfl, G.set7 _ (by omega) _ _ _ _ _ _ _⟩
    | true =>
      rw [Act.chk_yes hact] at HC
      by_cases hts : t = s
      · subst hts
        have hfe : Act.fitE t a b c x y z k t n = 0 := by unfold Act.fitE; rw [hacc, hact]; simp
        have hk := ((Act.act_iff k t n).1 hact).1
        have hk4 : k = 1 ∨ k = 2 ∨ k = 3 ∨ k = 4 := by omega
        clear hnot hk hacc hact
        have hE : Act.mvE C t a b c x y z k t n = Act.both (C.e (Act.oF k) a b c n) (Act.eK C k x y z n) := by unfold Act.mvE Act.both; rw [hfe, if_pos rfl]
        rw [hE]
        clear hE hfe
        rcases hk4 with rfl | rfl | rfl | rfl
        · rw [show Act.oF 1 = true from rfl]
          rw [show Act.eK C 1 x y z n = 0 from rfl]
          rw [show Act.hK C 1 x y z n = x from rfl]
          rw [show Act.iK C 1 x y z n = y from rfl]
          rw [show Act.uK C 1 x y z n = z from rfl]
          have HP1 : Hid (∀ w', Calls Try.prog 85 #[.int .i64 v, .agg #[.int .i64 a, .int .i64 b, .int .i64 c], .bool true, .int .i64 n] w' fun e w2 => e = .returned (.tuple #[.agg #[.int .i64 (C.h true a b c n), .int .i64 (C.i true a b c n), .int .i64 (C.o true a b c n)], .int .i64 (C.e true a b c n)]) ∧ Gr w' w2) := fun w' => HP.out a b c true w'
          clear HP
          generalize C.h true a b c n = a' at *
          generalize C.i true a b c n = b' at *
          generalize C.o true a b c n = c' at *
          generalize C.e true a b c n = e1 at *
          by_cases he : e1 = 0
          · have hne : (e1 != 0) = false := by simpa using he
            have HE : Hid (Act.both e1 0 = 0) := by show _ = _; unfold Act.both; rw [if_pos he]
            clear he
            go_enter Try.func58, Try.ntmps58
            go_wp2_with fail
            refine (HM.out _).mono ?_
            rintro e w1 ⟨rfl, hg1⟩
            have R := (AccAt.new _ _ _ _ _ _ _ _ _ (w.heap.size + 1 + 1) (by simp)).gr hg1
            have X := (((AccAt.new w _ _ _ _ _ _ _ _ w.heap.size rfl).gr (Gr.refl _).alloc).gr (Gr.refl _).alloc).gr hg1
            have B := ((BoxAt.new _ _ _ _ _ (w.heap.size + 1) (by simp)).gr (Gr.refl _).alloc).gr hg1
            have G : Gr w w1 := (by repeat (first | exact Gr.refl _ | refine Gr.alloc ?_ | refine Gr.drew ?_ | refine Gr.trans ?_ (by assumption)))
            clear hg1
            obtain ⟨b0, b1, b2, _, _, _, bl⟩ := id B
            go_wp2_with fail
            refine (HC.out _).mono ?_
            rintro e w2 ⟨rfl, hg2⟩
            have R := R.gr hg2
            have X := X.gr hg2
            have B := B.gr hg2
            have G := G.trans hg2
            clear hg2
            clear b0 b1 b2 bl
            obtain ⟨b0, b1, b2, _, _, _, bl⟩ := id B
            obtain ⟨x0, x1, x2, x3, x4, x5, x6⟩ := X.cells
            have xl := X.lt
            go_wp2_with fail
            refine (HP1.out _).mono ?_
            rintro e w3 ⟨rfl, hg3⟩
            have R := R.gr hg3
            have X := X.gr hg3
            have B := B.gr hg3
            have G := G.trans hg3
            clear hg3
            clear b0 b1 b2 bl
            clear x0 x1 x2 x3 x4 x5 x6 xl
            obtain ⟨b0, b1, b2, _, _, _, bl⟩ := id B
            obtain ⟨x0, x1, x2, x3, x4, x5, x6⟩ := X.cells
            have xl := X.lt
            obtain ⟨r0, r1, r2, r3, r4, r5, r6⟩ := R.cells
            obtain ⟨f0, f1, f2, f3, f4, f5, f6⟩ := R.frozens
            have rl := R.lt
            go_wp2
            exact bodyPost_ret (v := .tuple #[.agg #[.string t, .int .i64 a', .int .i64 b', .int .i64 c', .int .i64 x, .int .i64 y, .int .i64 z], .int .i64 0]) (by simp [results, Try.results58, go_sem, *]) rfl ⟨by rw [HE.out]; rfl, (G.set7 _ (by omega) _ _ _ _ _ _ _).alloc.alloc⟩
          · have hne : (e1 != 0) = true := by simpa using he
            have HE : Hid (Act.both e1 0 = e1 ∧ Act.pickS e1 t = ⟨#[]⟩ ∧ ∀ u, Pot.pick e1 u = 0) := by show _ ∧ _; unfold Act.both Act.pickS Pot.pick; simp [he]
            clear he
            go_enter Try.func58, Try.ntmps58
            go_wp2_with fail
            refine (HM.out _).mono ?_
            rintro e w1 ⟨rfl, hg1⟩
            have R := (AccAt.new _ _ _ _ _ _ _ _ _ (w.heap.size + 1 + 1) (by simp)).gr hg1
            have X := (((AccAt.new w _ _ _ _ _ _ _ _ w.heap.size rfl).gr (Gr.refl _).alloc).gr (Gr.refl _).alloc).gr hg1
            have B := ((BoxAt.new _ _ _ _ _ (w.heap.size + 1) (by simp)).gr (Gr.refl _).alloc).gr hg1
            have G : Gr w w1 := (by repeat (first | exact Gr.refl _ | refine Gr.alloc ?_ | refine Gr.drew ?_ | refine Gr.trans ?_ (by assumption)))
            clear hg1
            obtain ⟨b0, b1, b2, _, _, _, bl⟩ := id B
            go_wp2_with fail
            refine (HC.out _).mono ?_
            rintro e w2 ⟨rfl, hg2⟩
            have R := R.gr hg2
            have X := X.gr hg2
            have B := B.gr hg2
            have G := G.trans hg2
            clear hg2
            clear b0 b1 b2 bl
            obtain ⟨b0, b1, b2, _, _, _, bl⟩ := id B
            obtain ⟨x0, x1, x2, x3, x4, x5, x6⟩ := X.cells
            have xl := X.lt
            go_wp2_with fail
            refine (HP1.out _).mono ?_
            rintro e w3 ⟨rfl, hg3⟩
            have R := R.gr hg3
            have X := X.gr hg3
            have B := B.gr hg3
            have G := G.trans hg3
            clear hg3
            clear b0 b1 b2 bl
            clear x0 x1 x2 x3 x4 x5 x6 xl
            obtain ⟨b0, b1, b2, _, _, _, bl⟩ := id B
            obtain ⟨x0, x1, x2, x3, x4, x5, x6⟩ := X.cells
            have xl := X.lt
            obtain ⟨r0, r1, r2, r3, r4, r5, r6⟩ := R.cells
            obtain ⟨f0, f1, f2, f3, f4, f5, f6⟩ := R.frozens
            have rl := R.lt
            go_wp2
            exact bodyPost_ret (v := .tuple #[.agg #[.string ⟨#[]⟩, .int .i64 0, .int .i64 0, .int .i64 0, .int .i64 0, .int .i64 0, .int .i64 0], .int .i64 e1]) (by simp [results, Try.results58, go_sem, *]) rfl ⟨by rw [HE.out.1, HE.out.2.1, HE.out.2.2, HE.out.2.2, HE.out.2.2, HE.out.2.2, HE.out.2.2, HE.out.2.2], (G.set7 _ (by omega) _ _ _ _ _ _ _).alloc⟩
        · rw [show Act.oF 2 = false from rfl]
          rw [show Act.eK C 2 x y z n = 0 from rfl]
          rw [show Act.hK C 2 x y z n = x from rfl]
          rw [show Act.iK C 2 x y z n = y from rfl]
          rw [show Act.uK C 2 x y z n = z from rfl]
          have HP1 : Hid (∀ w', Calls Try.prog 85 #[.int .i64 v, .agg #[.int .i64 a, .int .i64 b, .int .i64 c], .bool false, .int .i64 n] w' fun e w2 => e = .returned (.tuple #[.agg #[.int .i64 (C.h false a b c n), .int .i64 (C.i false a b c n), .int .i64 (C.o false a b c n)], .int .i64 (C.e false a b c n)]) ∧ Gr w' w2) := fun w' => HP.out a b c false w'
          clear HP
          generalize C.h false a b c n = a' at *
          generalize C.i false a b c n = b' at *
          generalize C.o false a b c n = c' at *
          generalize C.e false a b c n = e1 at *
          by_cases he : e1 = 0
          · have hne : (e1 != 0) = false := by simpa using he
            have HE : Hid (Act.both e1 0 = 0) := by show _ = _; unfold Act.both; rw [if_pos he]
            clear he
            go_enter Try.func58, Try.ntmps58
            go_wp2_with fail
            refine (HM.out _).mono ?_
            rintro e w1 ⟨rfl, hg1⟩
            have R := (AccAt.new _ _ _ _ _ _ _ _ _ (w.heap.size + 1 + 1) (by simp)).gr hg1
            have X := (((AccAt.new w _ _ _ _ _ _ _ _ w.heap.size rfl).gr (Gr.refl _).alloc).gr (Gr.refl _).alloc).gr hg1
            have B := ((BoxAt.new _ _ _ _ _ (w.heap.size + 1) (by simp)).gr (Gr.refl _).alloc).gr hg1
            have G : Gr w w1 := (by repeat (first | exact Gr.refl _ | refine Gr.alloc ?_ | refine Gr.drew ?_ | refine Gr.trans ?_ (by assumption)))
            clear hg1
            obtain ⟨b0, b1, b2, _, _, _, bl⟩ := id B
            go_wp2_with fail
            refine (HC.out _).mono ?_
            rintro e w2 ⟨rfl, hg2⟩
            have R := R.gr hg2
            have X := X.gr hg2
            have B := B.gr hg2
            have G := G.trans hg2
            clear hg2
            clear b0 b1 b2 bl
            obtain ⟨b0, b1, b2, _, _, _, bl⟩ := id B
            obtain ⟨x0, x1, x2, x3, x4, x5, x6⟩ := X.cells
            have xl := X.lt
            go_wp2_with fail
            refine (HP1.out _).mono ?_
            rintro e w3 ⟨rfl, hg3⟩
            have R := R.gr hg3
            have X := X.gr hg3
            have B := B.gr hg3
            have G := G.trans hg3
            clear hg3
            clear b0 b1 b2 bl
            clear x0 x1 x2 x3 x4 x5 x6 xl
            obtain ⟨b0, b1, b2, _, _, _, bl⟩ := id B
            obtain ⟨x0, x1, x2, x3, x4, x5, x6⟩ := X.cells
            have xl := X.lt
            obtain ⟨r0, r1, r2, r3, r4, r5, r6⟩ := R.cells
            obtain ⟨f0, f1, f2, f3, f4, f5, f6⟩ := R.frozens
            have rl := R.lt
            go_wp2
            exact bodyPost_ret (v := .tuple #[.agg #[.string t, .int .i64 a', .int .i64 b', .int .i64 c', .int .i64 x, .int .i64 y, .int .i64 z], .int .i64 0]) (by simp [results, Try.results58, go_sem, *]) rfl ⟨by rw [HE.out]; rfl, (G.set7 _ (by omega) _ _ _ _ _ _ _).alloc.alloc⟩
          · have hne : (e1 != 0) = true := by simpa using he
            have HE : Hid (Act.both e1 0 = e1 ∧ Act.pickS e1 t = ⟨#[]⟩ ∧ ∀ u, Pot.pick e1 u = 0) := by show _ ∧ _; unfold Act.both Act.pickS Pot.pick; simp [he]
            clear he
            go_enter Try.func58, Try.ntmps58
            go_wp2_with fail
            refine (HM.out _).mono ?_
            rintro e w1 ⟨rfl, hg1⟩
            have R := (AccAt.new _ _ _ _ _ _ _ _ _ (w.heap.size + 1 + 1) (by simp)).gr hg1
            have X := (((AccAt.new w _ _ _ _ _ _ _ _ w.heap.size rfl).gr (Gr.refl _).alloc).gr (Gr.refl _).alloc).gr hg1
            have B := ((BoxAt.new _ _ _ _ _ (w.heap.size + 1) (by simp)).gr (Gr.refl _).alloc).gr hg1
            have G : Gr w w1 := (by repeat (first | exact Gr.refl _ | refine Gr.alloc ?_ | refine Gr.drew ?_ | refine Gr.trans ?_ (by assumption)))
            clear hg1
            obtain ⟨b0, b1, b2, _, _, _, bl⟩ := id B
            go_wp2_with fail
            refine (HC.out _).mono ?_
            rintro e w2 ⟨rfl, hg2⟩
            have R := R.gr hg2
            have X := X.gr hg2
            have B := B.gr hg2
            have G := G.trans hg2
            clear hg2
            clear b0 b1 b2 bl
            obtain ⟨b0, b1, b2, _, _, _, bl⟩ := id B
            obtain ⟨x0, x1, x2, x3, x4, x5, x6⟩ := X.cells
            have xl := X.lt
            go_wp2_with fail
            refine (HP1.out _).mono ?_
            rintro e w3 ⟨rfl, hg3⟩
            have R := R.gr hg3
            have X := X.gr hg3
            have B := B.gr hg3
            have G := G.trans hg3
            clear hg3
            clear b0 b1 b2 bl
            clear x0 x1 x2 x3 x4 x5 x6 xl
            obtain ⟨b0, b1, b2, _, _, _, bl⟩ := id B
            obtain ⟨x0, x1, x2, x3, x4, x5, x6⟩ := X.cells
            have xl := X.lt
            obtain ⟨r0, r1, r2, r3, r4, r5, r6⟩ := R.cells
            obtain ⟨f0, f1, f2, f3, f4, f5, f6⟩ := R.frozens
            have rl := R.lt
            go_wp2
            exact bodyPost_ret (v := .tuple #[.agg #[.string ⟨#[]⟩, .int .i64 0, .int .i64 0, .int .i64 0, .int .i64 0, .int .i64 0, .int .i64 0], .int .i64 e1]) (by simp [results, Try.results58, go_sem, *]) rfl ⟨by rw [HE.out.1, HE.out.2.1, HE.out.2.2, HE.out.2.2, HE.out.2.2, HE.out.2.2, HE.out.2.2, HE.out.2.2], (G.set7 _ (by omega) _ _ _ _ _ _ _).alloc⟩
        · rw [show Act.oF 3 = true from rfl]
          rw [show Act.eK C 3 x y z n = C.e false x y z n from rfl]
          rw [show Act.hK C 3 x y z n = C.h false x y z n from rfl]
          rw [show Act.iK C 3 x y z n = C.i false x y z n from rfl]
          rw [show Act.uK C 3 x y z n = C.o false x y z n from rfl]
          have HP1 : Hid (∀ w', Calls Try.prog 85 #[.int .i64 v, .agg #[.int .i64 a, .int .i64 b, .int .i64 c], .bool true, .int .i64 n] w' fun e w2 => e = .returned (.tuple #[.agg #[.int .i64 (C.h true a b c n), .int .i64 (C.i true a b c n), .int .i64 (C.o true a b c n)], .int .i64 (C.e true a b c n)]) ∧ Gr w' w2) := fun w' => HP.out a b c true w'
          have HP2 : Hid (∀ w', Calls Try.prog 85 #[.int .i64 v, .agg #[.int .i64 x, .int .i64 y, .int .i64 z], .bool false, .int .i64 n] w' fun e w2 => e = .returned (.tuple #[.agg #[.int .i64 (C.h false x y z n), .int .i64 (C.i false x y z n), .int .i64 (C.o false x y z n)], .int .i64 (C.e false x y z n)]) ∧ Gr w' w2) := fun w' => HP.out x y z false w'
          clear HP
          generalize C.h true a b c n = a' at *
          generalize C.i true a b c n = b' at *
          generalize C.o true a b c n = c' at *
          generalize C.e true a b c n = e1 at *
          generalize C.h false x y z n = x' at *
          generalize C.i false x y z n = y' at *
          generalize C.o false x y z n = z' at *
          generalize C.e false x y z n = e2 at *
          by_cases he : e1 = 0
          · have hne : (e1 != 0) = false := by simpa using he
            by_cases he2 : e2 = 0
            · have hne2 : (e2 != 0) = false := by simpa using he2
              have HE : Hid (Act.both e1 e2 = 0) := by show _ = _; unfold Act.both; rw [if_pos he, he2]
              clear he he2
              go_enter Try.func58, Try.ntmps58
              go_wp2_with fail
              refine (HM.out _).mono ?_
              rintro e w1 ⟨rfl, hg1⟩
              have R := (AccAt.new _ _ _ _ _ _ _ _ _ (w.heap.size + 1 + 1) (by simp)).gr hg1
              have X := (((AccAt.new w _ _ _ _ _ _ _ _ w.heap.size rfl).gr (Gr.refl _).alloc).gr (Gr.refl _).alloc).gr hg1
              have B := ((BoxAt.new _ _ _ _ _ (w.heap.size + 1) (by simp)).gr (Gr.refl _).alloc).gr hg1
              have G : Gr w w1 := (by repeat (first | exact Gr.refl _ | refine Gr.alloc ?_ | refine Gr.drew ?_ | refine Gr.trans ?_ (by assumption)))
              clear hg1
              obtain ⟨b0, b1, b2, _, _, _, bl⟩ := id B
              go_wp2_with fail
              refine (HC.out _).mono ?_
              rintro e w2 ⟨rfl, hg2⟩
              have R := R.gr hg2
              have X := X.gr hg2
              have B := B.gr hg2
              have G := G.trans hg2
              clear hg2
              clear b0 b1 b2 bl
              obtain ⟨b0, b1, b2, _, _, _, bl⟩ := id B
              obtain ⟨x0, x1, x2, x3, x4, x5, x6⟩ := X.cells
              have xl := X.lt
              go_wp2_with fail
              refine (HP1.out _).mono ?_
              rintro e w3 ⟨rfl, hg3⟩
              have R := R.gr hg3
              have X := X.gr hg3
              have B := B.gr hg3
              have G := G.trans hg3
              clear hg3
              clear b0 b1 b2 bl
              clear x0 x1 x2 x3 x4 x5 x6 xl
              have rl3 := R.lt
              obtain ⟨b0, b1, b2, _, _, _, bl⟩ := id B
              obtain ⟨x0, x1, x2, x3, x4, x5, x6⟩ := X.cells
              have xl := X.lt
              go_wp2_with fail
              refine (HP2.out _).mono ?_
              rintro e w4 ⟨rfl, hg4⟩
              have R := R.gr ((Gr.refl _).alloc.alloc.trans hg4)
              have X := X.gr ((Gr.refl _).alloc.alloc.trans hg4)
              have Q := ((BoxAt.new w3 _ _ _ _ _ rfl).gr (Gr.refl _).alloc).gr hg4
              have K := (BoxAt.new _ _ _ _ _ (w3.heap.size + 1) (by simp)).gr hg4
              have G4 := G.trans ((Gr.refl _).alloc.alloc.trans hg4)
              have hz3 : w.heap.size + 1 + 1 < w3.heap.size := by assumption
              obtain ⟨q0, q1, q2, _, _, _, ql⟩ := Q
              obtain ⟨k0, k1, k2, g0, g1, g2, kl⟩ := K
              clear hg4
              clear b0 b1 b2 bl
              clear x0 x1 x2 x3 x4 x5 x6 xl
              obtain ⟨x0, x1, x2, x3, x4, x5, x6⟩ := X.cells
              have xl := X.lt
              obtain ⟨r0, r1, r2, r3, r4, r5, r6⟩ := R.cells
              obtain ⟨f0, f1, f2, f3, f4, f5, f6⟩ := R.frozens
              have rl := R.lt
              go_wp2
              exact bodyPost_ret (v := .tuple #[.agg #[.string t, .int .i64 a', .int .i64 b', .int .i64 c', .int .i64 x', .int .i64 y', .int .i64 z'], .int .i64 0]) (by simp [results, Try.results58, go_sem, *]) rfl ⟨by rw [HE.out]; rfl, ((((G4.set _ (by simp; omega) _).set _ (by simp; omega) _).set _ (by simp; omega) _)).set7 _ (by omega) _ _ _ _ _ _ _⟩
            · have hne2 : (e2 != 0) = true := by simpa using he2
              have HE : Hid (Act.both e1 e2 = e2 ∧ Act.pickS e2 t = ⟨#[]⟩ ∧ ∀ u, Pot.pick e2 u = 0) := by show _ ∧ _; rw [he]; unfold Act.both Act.pickS Pot.pick; simp [he2]
              clear he he2
              go_enter Try.func58, Try.ntmps58
              go_wp2_with fail
              refine (HM.out _).mono ?_
              rintro e w1 ⟨rfl, hg1⟩
              have R := (AccAt.new _ _ _ _ _ _ _ _ _ (w.heap.size + 1 + 1) (by simp)).gr hg1
              have X := (((AccAt.new w _ _ _ _ _ _ _ _ w.heap.size rfl).gr (Gr.refl _).alloc).gr (Gr.refl _).alloc).gr hg1
              have B := ((BoxAt.new _ _ _ _ _ (w.heap.size + 1) (by simp)).gr (Gr.refl _).alloc).gr hg1
              have G : Gr w w1 := (by repeat (first | exact Gr.refl _ | refine Gr.alloc ?_ | refine Gr.drew ?_ | refine Gr.trans ?_ (by assumption)))
              clear hg1
              obtain ⟨b0, b1, b2, _, _, _, bl⟩ := id B
              go_wp2_with fail
              refine (HC.out _).mono ?_
              rintro e w2 ⟨rfl, hg2⟩
              have R := R.gr hg2
              have X := X.gr hg2
              have B := B.gr hg2
              have G := G.trans hg2
              clear hg2
              clear b0 b1 b2 bl
              obtain ⟨b0, b1, b2, _, _, _, bl⟩ := id B
              obtain ⟨x0, x1, x2, x3, x4, x5, x6⟩ := X.cells
              have xl := X.lt
              go_wp2_with fail
              refine (HP1.out _).mono ?_
              rintro e w3 ⟨rfl, hg3⟩
              have R := R.gr hg3
              have X := X.gr hg3
              have B := B.gr hg3
              have G := G.trans hg3
              clear hg3
              clear b0 b1 b2 bl
              clear x0 x1 x2 x3 x4 x5 x6 xl
              have rl3 := R.lt
              obtain ⟨b0, b1, b2, _, _, _, bl⟩ := id B
              obtain ⟨x0, x1, x2, x3, x4, x5, x6⟩ := X.cells
              have xl := X.lt
              go_wp2_with fail
              refine (HP2.out _).mono ?_
              rintro e w4 ⟨rfl, hg4⟩
              have R := R.gr ((Gr.refl _).alloc.alloc.trans hg4)
              have X := X.gr ((Gr.refl _).alloc.alloc.trans hg4)
              have Q := ((BoxAt.new w3 _ _ _ _ _ rfl).gr (Gr.refl _).alloc).gr hg4
              have K := (BoxAt.new _ _ _ _ _ (w3.heap.size + 1) (by simp)).gr hg4
              have G4 := G.trans ((Gr.refl _).alloc.alloc.trans hg4)
              have hz3 : w.heap.size + 1 + 1 < w3.heap.size := by assumption
              obtain ⟨q0, q1, q2, _, _, _, ql⟩ := Q
              obtain ⟨k0, k1, k2, g0, g1, g2, kl⟩ := K
              clear hg4
              clear b0 b1 b2 bl
              clear x0 x1 x2 x3 x4 x5 x6 xl
              obtain ⟨x0, x1, x2, x3, x4, x5, x6⟩ := X.cells
              have xl := X.lt
              obtain ⟨r0, r1, r2, r3, r4, r5, r6⟩ := R.cells
              obtain ⟨f0, f1, f2, f3, f4, f5, f6⟩ := R.frozens
              have rl := R.lt
              go_wp2
              exact bodyPost_ret (v := .tuple #[.agg #[.string ⟨#[]⟩, .int .i64 0, .int .i64 0, .int .i64 0, .int .i64 0, .int .i64 0, .int .i64 0], .int .i64 e2]) (by simp [results, Try.results58, go_sem, *]) rfl ⟨by rw [HE.out.1, HE.out.2.1, HE.out.2.2, HE.out.2.2, HE.out.2.2, HE.out.2.2, HE.out.2.2, HE.out.2.2], ((((G4.set _ (by simp; omega) _).set _ (by simp; omega) _).set _ (by simp; omega) _)).set7 _ (by omega) _ _ _ _ _ _ _⟩
          · have hne : (e1 != 0) = true := by simpa using he
            have HE : Hid (Act.both e1 e2 = e1 ∧ Act.pickS e1 t = ⟨#[]⟩ ∧ ∀ u, Pot.pick e1 u = 0) := by show _ ∧ _; unfold Act.both Act.pickS Pot.pick; simp [he]
            clear he
            go_enter Try.func58, Try.ntmps58
            go_wp2_with fail
            refine (HM.out _).mono ?_
            rintro e w1 ⟨rfl, hg1⟩
            have R := (AccAt.new _ _ _ _ _ _ _ _ _ (w.heap.size + 1 + 1) (by simp)).gr hg1
            have X := (((AccAt.new w _ _ _ _ _ _ _ _ w.heap.size rfl).gr (Gr.refl _).alloc).gr (Gr.refl _).alloc).gr hg1
            have B := ((BoxAt.new _ _ _ _ _ (w.heap.size + 1) (by simp)).gr (Gr.refl _).alloc).gr hg1
            have G : Gr w w1 := (by repeat (first | exact Gr.refl _ | refine Gr.alloc ?_ | refine Gr.drew ?_ | refine Gr.trans ?_ (by assumption)))
            clear hg1
            obtain ⟨b0, b1, b2, _, _, _, bl⟩ := id B
            go_wp2_with fail
            refine (HC.out _).mono ?_
            rintro e w2 ⟨rfl, hg2⟩
            have R := R.gr hg2
            have X := X.gr hg2
            have B := B.gr hg2
            have G := G.trans hg2
            clear hg2
            clear b0 b1 b2 bl
            obtain ⟨b0, b1, b2, _, _, _, bl⟩ := id B
            obtain ⟨x0, x1, x2, x3, x4, x5, x6⟩ := X.cells
            have xl := X.lt
            go_wp2_with fail
            refine (HP1.out _).mono ?_
            rintro e w3 ⟨rfl, hg3⟩
            have R := R.gr hg3
            have X := X.gr hg3
            have B := B.gr hg3
            have G := G.trans hg3
            clear hg3
            clear b0 b1 b2 bl
            clear x0 x1 x2 x3 x4 x5 x6 xl
            obtain ⟨b0, b1, b2, _, _, _, bl⟩ := id B
            obtain ⟨x0, x1, x2, x3, x4, x5, x6⟩ := X.cells
            have xl := X.lt
            obtain ⟨r0, r1, r2, r3, r4, r5, r6⟩ := R.cells
            obtain ⟨f0, f1, f2, f3, f4, f5, f6⟩ := R.frozens
            have rl := R.lt
            go_wp2
            exact bodyPost_ret (v := .tuple #[.agg #[.string ⟨#[]⟩, .int .i64 0, .int .i64 0, .int .i64 0, .int .i64 0, .int .i64 0, .int .i64 0], .int .i64 e1]) (by simp [results, Try.results58, go_sem, *]) rfl ⟨by rw [HE.out.1, HE.out.2.1, HE.out.2.2, HE.out.2.2, HE.out.2.2, HE.out.2.2, HE.out.2.2, HE.out.2.2], (G.set7 _ (by omega) _ _ _ _ _ _ _).alloc⟩
        · rw [show Act.oF 4 = false from rfl]
          rw [show Act.eK C 4 x y z n = C.e true x y z n from rfl]
          rw [show Act.hK C 4 x y z n = C.h true x y z n from rfl]
          rw [show Act.iK C 4 x y z n = C.i true x y z n from rfl]
          rw [show Act.uK C 4 x y z n = C.o true x y z n from rfl]
          have HP1 : Hid (∀ w', Calls Try.prog 85 #[.int .i64 v, .agg #[.int .i64 a, .int .i64 b, .int .i64 c], .bool false, .int .i64 n] w' fun e w2 => e = .returned (.tuple #[.agg #[.int .i64 (C.h false a b c n), .int .i64 (C.i false a b c n), .int .i64 (C.o false a b c n)], .int .i64 (C.e false a b c n)]) ∧ Gr w' w2) := fun w' => HP.out a b c false w'
          have HP2 : Hid (∀ w', Calls Try.prog 85 #[.int .i64 v, .agg #[.int .i64 x, .int .i64 y, .int .i64 z], .bool true, .int .i64 n] w' fun e w2 => e = .returned (.tuple #[.agg #[.int .i64 (C.h true x y z n), .int .i64 (C.i true x y z n), .int .i64 (C.o true x y z n)], .int .i64 (C.e true x y z n)]) ∧ Gr w' w2) := fun w' => HP.out x y z true w'
          clear HP
          generalize C.h false a b c n = a' at *
          generalize C.i false a b c n = b' at *
          generalize C.o false a b c n = c' at *
          generalize C.e false a b c n = e1 at *
          generalize C.h true x y z n = x' at *
          generalize C.i true x y z n = y' at *
          generalize C.o true x y z n = z' at *
          generalize C.e true x y z n = e2 at *
          by_cases he : e1 = 0
          · have hne : (e1 != 0) = false := by simpa using he
            by_cases he2 : e2 = 0
            · have hne2 : (e2 != 0) = false := by simpa using he2
              have HE : Hid (Act.both e1 e2 = 0) := by show _ = _; unfold Act.both; rw [if_pos he, he2]
              clear he he2
              go_enter Try.func58, Try.ntmps58
              go_wp2_with fail
              refine (HM.out _).mono ?_
              rintro e w1 ⟨rfl, hg1⟩
              have R := (AccAt.new _ _ _ _ _ _ _ _ _ (w.heap.size + 1 + 1) (by simp)).gr hg1
              have X := (((AccAt.new w _ _ _ _ _ _ _ _ w.heap.size rfl).gr (Gr.refl _).alloc).gr (Gr.refl _).alloc).gr hg1
              have B := ((BoxAt.new _ _ _ _ _ (w.heap.size + 1) (by simp)).gr (Gr.refl _).alloc).gr hg1
              have G : Gr w w1 := (by repeat (first | exact Gr.refl _ | refine Gr.alloc ?_ | refine Gr.drew ?_ | refine Gr.trans ?_ (by assumption)))
              clear hg1
              obtain ⟨b0, b1, b2, _, _, _, bl⟩ := id B
              go_wp2_with fail
              refine (HC.out _).mono ?_
              rintro e w2 ⟨rfl, hg2⟩
              have R := R.gr hg2
              have X := X.gr hg2
              have B := B.gr hg2
              have G := G.trans hg2
              clear hg2
              clear b0 b1 b2 bl
              obtain ⟨b0, b1, b2, _, _, _, bl⟩ := id B
              obtain ⟨x0, x1, x2, x3, x4, x5, x6⟩ := X.cells
              have xl := X.lt
              go_wp2_with fail
              refine (HP1.out _).mono ?_
              rintro e w3 ⟨rfl, hg3⟩
              have R := R.gr hg3
              have X := X.gr hg3
              have B := B.gr hg3
              have G := G.trans hg3
              clear hg3
              clear b0 b1 b2 bl
              clear x0 x1 x2 x3 x4 x5 x6 xl
              have rl3 := R.lt
              obtain ⟨b0, b1, b2, _, _, _, bl⟩ := id B
              obtain ⟨x0, x1, x2, x3, x4, x5, x6⟩ := X.cells
              have xl := X.lt
              go_wp2_with fail
              refine (HP2.out _).mono ?_
              rintro e w4 ⟨rfl, hg4⟩
              have R := R.gr ((Gr.refl _).alloc.alloc.trans hg4)
              have X := X.gr ((Gr.refl _).alloc.alloc.trans hg4)
              have Q := ((BoxAt.new w3 _ _ _ _ _ rfl).gr (Gr.refl _).alloc).gr hg4
              have K := (BoxAt.new _ _ _ _ _ (w3.heap.size + 1) (by simp)).gr hg4
              have G4 := G.trans ((Gr.refl _).alloc.alloc.trans hg4)
              have hz3 : w.heap.size + 1 + 1 < w3.heap.size := by assumption
              obtain ⟨q0, q1, q2, _, _, _, ql⟩ := Q
              obtain ⟨k0, k1, k2, g0, g1, g2, kl⟩ := K
              clear hg4
              clear b0 b1 b2 bl
              clear x0 x1 x2 x3 x4 x5 x6 xl
              obtain ⟨x0, x1, x2, x3, x4, x5, x6⟩ := X.cells
              have xl := X.lt
              obtain ⟨r0, r1, r2, r3, r4, r5, r6⟩ := R.cells
              obtain ⟨f0, f1, f2, f3, f4, f5, f6⟩ := R.frozens
              have rl := R.lt
              go_wp2
              exact bodyPost_ret (v := .tuple #[.agg #[.string t, .int .i64 a', .int .i64 b', .int .i64 c', .int .i64 x', .int .i64 y', .int .i64 z'], .int .i64 0]) (by simp [results, Try.results58, go_sem, *]) rfl ⟨by rw [HE.out]; rfl, ((((G4.set _ (by simp; omega) _).set _ (by simp; omega) _).set _ (by simp; omega) _)).set7 _ (by omega) _ _ _ _ _ _ _⟩
            · have hne2 : (e2 != 0) = true := by simpa using he2
              have HE : Hid (Act.both e1 e2 = e2 ∧ Act.pickS e2 t = ⟨#[]⟩ ∧ ∀ u, Pot.pick e2 u = 0) := by show _ ∧ _; rw [he]; unfold Act.both Act.pickS Pot.pick; simp [he2]
              clear he he2
              go_enter Try.func58, Try.ntmps58
              go_wp2_with fail
              refine (HM.out _).mono ?_
              rintro e w1 ⟨rfl, hg1⟩
              have R := (AccAt.new _ _ _ _ _ _ _ _ _ (w.heap.size + 1 + 1) (by simp)).gr hg1
              have X := (((AccAt.new w _ _ _ _ _ _ _ _ w.heap.size rfl).gr (Gr.refl _).alloc).gr (Gr.refl _).alloc).gr hg1
              have B := ((BoxAt.new _ _ _ _ _ (w.heap.size + 1) (by simp)).gr (Gr.refl _).alloc).gr hg1
              have G : Gr w w1 := (by repeat (first | exact Gr.refl _ | refine Gr.alloc ?_ | refine Gr.drew ?_ | refine Gr.trans ?_ (by assumption)))
              clear hg1
              obtain ⟨b0, b1, b2, _, _, _, bl⟩ := id B
              go_wp2_with fail
              refine (HC.out _).mono ?_
              rintro e w2 ⟨rfl, hg2⟩
              have R := R.gr hg2
              have X := X.gr hg2
              have B := B.gr hg2
              have G := G.trans hg2
              clear hg2
              clear b0 b1 b2 bl
              obtain ⟨b0, b1, b2, _, _, _, bl⟩ := id B
              obtain ⟨x0, x1, x2, x3, x4, x5, x6⟩ := X.cells
              have xl := X.lt
              go_wp2_with fail
              refine (HP1.out _).mono ?_
              rintro e w3 ⟨rfl, hg3⟩
              have R := R.gr hg3
              have X := X.gr hg3
              have B := B.gr hg3
              have G := G.trans hg3
              clear hg3
              clear b0 b1 b2 bl
              clear x0 x1 x2 x3 x4 x5 x6 xl
              have rl3 := R.lt
              obtain ⟨b0, b1, b2, _, _, _, bl⟩ := id B
              obtain ⟨x0, x1, x2, x3, x4, x5, x6⟩ := X.cells
              have xl := X.lt
              go_wp2_with fail
              refine (HP2.out _).mono ?_
              rintro e w4 ⟨rfl, hg4⟩
              have R := R.gr ((Gr.refl _).alloc.alloc.trans hg4)
              have X := X.gr ((Gr.refl _).alloc.alloc.trans hg4)
              have Q := ((BoxAt.new w3 _ _ _ _ _ rfl).gr (Gr.refl _).alloc).gr hg4
              have K := (BoxAt.new _ _ _ _ _ (w3.heap.size + 1) (by simp)).gr hg4
              have G4 := G.trans ((Gr.refl _).alloc.alloc.trans hg4)
              have hz3 : w.heap.size + 1 + 1 < w3.heap.size := by assumption
              obtain ⟨q0, q1, q2, _, _, _, ql⟩ := Q
              obtain ⟨k0, k1, k2, g0, g1, g2, kl⟩ := K
              clear hg4
              clear b0 b1 b2 bl
              clear x0 x1 x2 x3 x4 x5 x6 xl
              obtain ⟨x0, x1, x2, x3, x4, x5, x6⟩ := X.cells
              have xl := X.lt
              obtain ⟨r0, r1, r2, r3, r4, r5, r6⟩ := R.cells
              obtain ⟨f0, f1, f2, f3, f4, f5, f6⟩ := R.frozens
              have rl := R.lt
              go_wp2
              exact bodyPost_ret (v := .tuple #[.agg #[.string ⟨#[]⟩, .int .i64 0, .int .i64 0, .int .i64 0, .int .i64 0, .int .i64 0, .int .i64 0], .int .i64 e2]) (by simp [results, Try.results58, go_sem, *]) rfl ⟨by rw [HE.out.1, HE.out.2.1, HE.out.2.2, HE.out.2.2, HE.out.2.2, HE.out.2.2, HE.out.2.2, HE.out.2.2], ((((G4.set _ (by simp; omega) _).set _ (by simp; omega) _).set _ (by simp; omega) _)).set7 _ (by omega) _ _ _ _ _ _ _⟩
          · have hne : (e1 != 0) = true := by simpa using he
            have HE : Hid (Act.both e1 e2 = e1 ∧ Act.pickS e1 t = ⟨#[]⟩ ∧ ∀ u, Pot.pick e1 u = 0) := by show _ ∧ _; unfold Act.both Act.pickS Pot.pick; simp [he]
            clear he
            go_enter Try.func58, Try.ntmps58
            go_wp2_with fail
            refine (HM.out _).mono ?_
            rintro e w1 ⟨rfl, hg1⟩
            have R := (AccAt.new _ _ _ _ _ _ _ _ _ (w.heap.size + 1 + 1) (by simp)).gr hg1
            have X := (((AccAt.new w _ _ _ _ _ _ _ _ w.heap.size rfl).gr (Gr.refl _).alloc).gr (Gr.refl _).alloc).gr hg1
            have B := ((BoxAt.new _ _ _ _ _ (w.heap.size + 1) (by simp)).gr (Gr.refl _).alloc).gr hg1
            have G : Gr w w1 := (by repeat (first | exact Gr.refl _ | refine Gr.alloc ?_ | refine Gr.drew ?_ | refine Gr.trans ?_ (by assumption)))
            clear hg1
            obtain ⟨b0, b1, b2, _, _, _, bl⟩ := id B
            go_wp2_with fail
            refine (HC.out _).mono ?_
            rintro e w2 ⟨rfl, hg2⟩
            have R := R.gr hg2
            have X := X.gr hg2
            have B := B.gr hg2
            have G := G.trans hg2
            clear hg2
            clear b0 b1 b2 bl
            obtain ⟨b0, b1, b2, _, _, _, bl⟩ := id B
            obtain ⟨x0, x1, x2, x3, x4, x5, x6⟩ := X.cells
            have xl := X.lt
            go_wp2_with fail
            refine (HP1.out _).mono ?_
            rintro e w3 ⟨rfl, hg3⟩
            have R := R.gr hg3
            have X := X.gr hg3
            have B := B.gr hg3
            have G := G.trans hg3
            clear hg3
            clear b0 b1 b2 bl
            clear x0 x1 x2 x3 x4 x5 x6 xl
            obtain ⟨b0, b1, b2, _, _, _, bl⟩ := id B
            obtain ⟨x0, x1, x2, x3, x4, x5, x6⟩ := X.cells
            have xl := X.lt
            obtain ⟨r0, r1, r2, r3, r4, r5, r6⟩ := R.cells
            obtain ⟨f0, f1, f2, f3, f4, f5, f6⟩ := R.frozens
            have rl := R.lt
            go_wp2
            exact bodyPost_ret (v := .tuple #[.agg #[.string ⟨#[]⟩, .int .i64 0, .int .i64 0, .int .i64 0, .int .i64 0, .int .i64 0, .int .i64 0], .int .i64 e1]) (by simp [results, Try.results58, go_sem, *]) rfl ⟨by rw [HE.out.1, HE.out.2.1, HE.out.2.2, HE.out.2.2, HE.out.2.2, HE.out.2.2, HE.out.2.2, HE.out.2.2], (G.set7 _ (by omega) _ _ _ _ _ _ _).alloc⟩
      · have HE := hnot 60 (by decide) (by unfold Act.fitE; rw [hacc, hact]; simp [hts])
        rw [decide_eq_false hts] at hq
        rw [HE.out]
        clear hnot HP hacc HE hact hts
        go_enter Try.func58, Try.ntmps58
        go_wp2_with fail
        refine (HM.out _).mono ?_
        rintro e w1 ⟨rfl, hg1⟩
        have R := (AccAt.new _ _ _ _ _ _ _ _ _ (w.heap.size + 1 + 1) (by simp)).gr hg1
        have X := (((AccAt.new w _ _ _ _ _ _ _ _ w.heap.size rfl).gr (Gr.refl _).alloc).gr (Gr.refl _).alloc).gr hg1
        have B := ((BoxAt.new _ _ _ _ _ (w.heap.size + 1) (by simp)).gr (Gr.refl _).alloc).gr hg1
        have G : Gr w w1 := (by repeat (first | exact Gr.refl _ | refine Gr.alloc ?_ | refine Gr.drew ?_ | refine Gr.trans ?_ (by assumption)))
        clear hg1
        obtain ⟨b0, b1, b2, _, _, _, bl⟩ := id B
        go_wp2_with fail
        refine (HC.out _).mono ?_
        rintro e w2 ⟨rfl, hg2⟩
        have R := R.gr hg2
        have X := X.gr hg2
        have B := B.gr hg2
        have G := G.trans hg2
        clear hg2
        clear b0 b1 b2 bl
        obtain ⟨b0, b1, b2, _, _, _, bl⟩ := id B
        obtain ⟨x0, x1, x2, x3, x4, x5, x6⟩ := X.cells
        have xl := X.lt
        obtain ⟨r0, r1, r2, r3, r4, r5, r6⟩ := R.cells
        obtain ⟨f0, f1, f2, f3, f4, f5, f6⟩ := R.frozens
        have rl := R.lt
        go_wp2
        exact bodyPost_ret (v := .tuple #[.agg #[.string ⟨#[]⟩, .int .i64 0, .int .i64 0, .int .i64 0, .int .i64 0, .int .i64 0, .int .i64 0], .int .i64 60]) (by simp [results, Try.results58, go_sem, *]) rfl ⟨rfl, G.set7 _ (by omega) _ _ _ _ _ _ _⟩
end Go.Proofs.Ytgidkmipecfjhaa
