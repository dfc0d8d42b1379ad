/- act: Do, Undo, Keep. -/
import Derived.Test.YtiakajheoajepaaMovD
import Derived.Test.YtiakajheoajepaaMovU
import Derived.Test.YtiakajheoajepaaMovK
import Derived.Test.YtiakajheoajepaaPotD
namespace Go.Proofs.Ytiakajheoajepaa
open Go.RowKit

theorem moveD_any (s : ByteArray) (a b c x y z : Int) (k n : Int) (t : ByteArray) (w : World) (hs : s.size ≤ 9223372036854775807) (ht : t.size ≤ 9223372036854775807) (hF1 : a ≤ 9223372036854775807) (hF2 : c ≤ 9223372036854775807) (hK1 : x ≤ 9223372036854775807) (hK2 : z ≤ 9223372036854775807) :
    Calls Try.prog 86 #[.agg #[.string s, .int .i64 a, .int .i64 b, .int .i64 c, .int .i64 x, .int .i64 y, .int .i64 z], .agg #[.int .i64 k, .string t, .int .i64 n], .func (.func 95) #[] #[]] w fun e w' =>
      e = .returned (.tuple #[.agg #[.string (Act.pickS (Act.mvE Act.chDo s a b c x y z k t n) s), .int .i64 (Pot.pick (Act.mvE Act.chDo s a b c x y z k t n) (Act.chDo.h (Act.oF k) a b c n)), .int .i64 (Pot.pick (Act.mvE Act.chDo s a b c x y z k t n) (Act.chDo.i (Act.oF k) a b c n)), .int .i64 (Pot.pick (Act.mvE Act.chDo s a b c x y z k t n) (Act.chDo.o (Act.oF k) a b c n)), .int .i64 (Pot.pick (Act.mvE Act.chDo s a b c x y z k t n) (Act.hK Act.chDo k x y z n)), .int .i64 (Pot.pick (Act.mvE Act.chDo s a b c x y z k t n) (Act.iK Act.chDo k x y z n)), .int .i64 (Pot.pick (Act.mvE Act.chDo s a b c x y z k t n) (Act.uK Act.chDo k x y z n))], .int .i64 (Act.mvE Act.chDo s a b c x y z k t n)]) ∧ Gr w w' := by
  have HF : Hid (∀ w', Calls Try.prog 101 #[.agg #[.string s, .int .i64 a, .int .i64 b, .int .i64 c, .int .i64 x, .int .i64 y, .int .i64 z], .agg #[.int .i64 k, .string t, .int .i64 n]] w' fun e w2 => e = .returned (.int .i64 (Act.fitE s a b c x y z k t n)) ∧ Gr w' w2) := fun w' => actFits_any s a b c x y z k n t w' hs ht hF1 hF2 hK1 hK2
  rcases Act.fit_cases s a b c x y z k t n with ⟨h0, hacc, hact, rfl⟩ | h2
  · have hE : Act.mvE Act.chDo t a b c x y z k t n = Act.both (Act.chDo.e (Act.oF k) a b c n) (Act.eK Act.chDo k x y z n) := by unfold Act.mvE Act.both; rw [if_pos h0]
    rw [hE]
    rw [h0] at HF
    have hk := ((Act.act_iff k t n).1 hact).1
    exact move_goD t a b c x y z k n t (Act.wF k) (Act.wK k) _ _ _ _ _ _ _ _ w HF (fun w' => ways_any k w') (fun w' => clone_any t w' (by have := Act.name_pos ((Act.acc_iff t a b c x y z).1 hacc).1; omega))
      (fun w' => do_any a b c n (Act.oF k) w' hF2 hF1)
      (fun hg w' => by
        have := do_any x y z n (Act.oK k) w' hK2 hK1
        unfold Act.hK Act.iK Act.uK Act.eK
        rw [if_neg hg, if_neg hg, if_neg hg, if_neg hg]
        exact this)
      (fun hg => by
        unfold Act.hK Act.iK Act.uK Act.eK
        rw [if_pos hg, if_pos hg, if_pos hg, if_pos hg]
        exact ⟨rfl, rfl, rfl, rfl⟩) (Act.wF_ne hk.1 hk.2)
  · have hne : Act.fitE s a b c x y z k t n ≠ 0 := by rcases h2 with h | h <;> rw [h] <;> decide
    have hE : Act.mvE Act.chDo s a b c x y z k t n = Act.fitE s a b c x y z k t n := by unfold Act.mvE; rw [if_neg hne]
    have hp : ∀ v, Pot.pick (Act.fitE s a b c x y z k t n) v = 0 := fun v => by unfold Pot.pick; rw [if_neg hne]
    have hq : Act.pickS (Act.fitE s a b c x y z k t n) s = ⟨#[]⟩ := by unfold Act.pickS; rw [if_neg hne]
    rw [hE, hp, hp, hp, hp, hp, hp, hq]
    exact move_fit 95 s a b c x y z k n t _ w HF hne

set_option maxHeartbeats 1000000 in
theorem actD_any (s : ByteArray) (a b c x y z : Int) (k n : Int) (t : ByteArray) (w : World) (hs : s.size ≤ 9223372036854775807) (ht : t.size ≤ 9223372036854775807) (hF1 : a ≤ 9223372036854775807) (hF2 : c ≤ 9223372036854775807) (hK1 : x ≤ 9223372036854775807) (hK2 : z ≤ 9223372036854775807) :
    Calls Try.prog 83 #[.agg #[.string s, .int .i64 a, .int .i64 b, .int .i64 c, .int .i64 x, .int .i64 y, .int .i64 z], .agg #[.int .i64 k, .string t, .int .i64 n]] w fun e w' =>
      e = .returned (.tuple #[.agg #[.string (Act.pickS (Act.mvE Act.chDo s a b c x y z k t n) s), .int .i64 (Pot.pick (Act.mvE Act.chDo s a b c x y z k t n) (Act.chDo.h (Act.oF k) a b c n)), .int .i64 (Pot.pick (Act.mvE Act.chDo s a b c x y z k t n) (Act.chDo.i (Act.oF k) a b c n)), .int .i64 (Pot.pick (Act.mvE Act.chDo s a b c x y z k t n) (Act.chDo.o (Act.oF k) a b c n)), .int .i64 (Pot.pick (Act.mvE Act.chDo s a b c x y z k t n) (Act.hK Act.chDo k x y z n)), .int .i64 (Pot.pick (Act.mvE Act.chDo s a b c x y z k t n) (Act.iK Act.chDo k x y z n)), .int .i64 (Pot.pick (Act.mvE Act.chDo s a b c x y z k t n) (Act.uK Act.chDo k x y z n))], .int .i64 (Act.mvE Act.chDo s a b c x y z k t n)]) ∧ Gr w w' := by
  have HM : Hid (∀ w', Calls Try.prog 86 #[.agg #[.string s, .int .i64 a, .int .i64 b, .int .i64 c, .int .i64 x, .int .i64 y, .int .i64 z], .agg #[.int .i64 k, .string t, .int .i64 n], .func (.func 95) #[] #[]] w' fun e w2 =>
      e = .returned (.tuple #[.agg #[.string (Act.pickS (Act.mvE Act.chDo s a b c x y z k t n) s), .int .i64 (Pot.pick (Act.mvE Act.chDo s a b c x y z k t n) (Act.chDo.h (Act.oF k) a b c n)), .int .i64 (Pot.pick (Act.mvE Act.chDo s a b c x y z k t n) (Act.chDo.i (Act.oF k) a b c n)), .int .i64 (Pot.pick (Act.mvE Act.chDo s a b c x y z k t n) (Act.chDo.o (Act.oF k) a b c n)), .int .i64 (Pot.pick (Act.mvE Act.chDo s a b c x y z k t n) (Act.hK Act.chDo k x y z n)), .int .i64 (Pot.pick (Act.mvE Act.chDo s a b c x y z k t n) (Act.iK Act.chDo k x y z n)), .int .i64 (Pot.pick (Act.mvE Act.chDo s a b c x y z k t n) (Act.uK Act.chDo k x y z n))], .int .i64 (Act.mvE Act.chDo s a b c x y z k t n)]) ∧ Gr w' w2) := fun w' => moveD_any s a b c x y z k n t w' hs ht hF1 hF2 hK1 hK2
  clear hs ht hF1 hF2 hK1 hK2
  generalize Pot.pick (Act.mvE Act.chDo s a b c x y z k t n) (Act.chDo.h (Act.oF k) a b c n) = r1 at *
  generalize Pot.pick (Act.mvE Act.chDo s a b c x y z k t n) (Act.chDo.i (Act.oF k) a b c n) = r2 at *
  generalize Pot.pick (Act.mvE Act.chDo s a b c x y z k t n) (Act.chDo.o (Act.oF k) a b c n) = r3 at *
  generalize Pot.pick (Act.mvE Act.chDo s a b c x y z k t n) (Act.hK Act.chDo k x y z n) = r4 at *
  generalize Pot.pick (Act.mvE Act.chDo s a b c x y z k t n) (Act.iK Act.chDo k x y z n) = r5 at *
  generalize Pot.pick (Act.mvE Act.chDo s a b c x y z k t n) (Act.uK Act.chDo k x y z n) = r6 at *
  generalize Act.pickS (Act.mvE Act.chDo s a b c x y z k t n) s = r0 at *
  generalize Act.mvE Act.chDo s a b c x y z k t n = er at *
  go_enter Try.func83, Try.ntmps83
  go_wp2_with fail
  refine (HM.out _).mono ?_
  rintro e w1 ⟨rfl, hg1⟩
  have R := (AccAt.new _ _ _ _ _ _ _ _ _ (w.heap.size + 1 + 1) (by simp)).gr hg1
  obtain ⟨c0, c1, c2, c3, c4, c5, c6⟩ := R.cells
  obtain ⟨f0, f1, f2, f3, f4, f5, f6⟩ := R.frozens
  have rl := R.lt
  have g1 : Gr w w1 := (by repeat (first | exact Gr.refl _ | refine Gr.alloc ?_ | refine Gr.drew ?_ | refine Gr.trans ?_ (by assumption)))
  clear R hg1
  go_wp2
  exact bodyPost_ret (v := .tuple #[.agg #[.string r0, .int .i64 r1, .int .i64 r2, .int .i64 r3, .int .i64 r4, .int .i64 r5, .int .i64 r6], .int .i64 er]) (by simp [results, Try.results83, go_sem, *]) rfl ⟨rfl, g1.set7 _ (by omega) _ _ _ _ _ _ _⟩

theorem moveU_any (s : ByteArray) (a b c x y z : Int) (k n : Int) (t : ByteArray) (w : World) (hs : s.size ≤ 9223372036854775807) (ht : t.size ≤ 9223372036854775807) (hF1 : a ≤ 9223372036854775807) (hF2 : c ≤ 9223372036854775807) (hK1 : x ≤ 9223372036854775807) (hK2 : z ≤ 9223372036854775807) :
    Calls Try.prog 86 #[.agg #[.string s, .int .i64 a, .int .i64 b, .int .i64 c, .int .i64 x, .int .i64 y, .int .i64 z], .agg #[.int .i64 k, .string t, .int .i64 n], .func (.func 87) #[] #[]] w fun e w' =>
      e = .returned (.tuple #[.agg #[.string (Act.pickS (Act.mvE Act.chUn s a b c x y z k t n) s), .int .i64 (Pot.pick (Act.mvE Act.chUn s a b c x y z k t n) (Act.chUn.h (Act.oF k) a b c n)), .int .i64 (Pot.pick (Act.mvE Act.chUn s a b c x y z k t n) (Act.chUn.i (Act.oF k) a b c n)), .int .i64 (Pot.pick (Act.mvE Act.chUn s a b c x y z k t n) (Act.chUn.o (Act.oF k) a b c n)), .int .i64 (Pot.pick (Act.mvE Act.chUn s a b c x y z k t n) (Act.hK Act.chUn k x y z n)), .int .i64 (Pot.pick (Act.mvE Act.chUn s a b c x y z k t n) (Act.iK Act.chUn k x y z n)), .int .i64 (Pot.pick (Act.mvE Act.chUn s a b c x y z k t n) (Act.uK Act.chUn k x y z n))], .int .i64 (Act.mvE Act.chUn s a b c x y z k t n)]) ∧ Gr w w' := by
  have HF : Hid (∀ w', Calls Try.prog 101 #[.agg #[.string s, .int .i64 a, .int .i64 b, .int .i64 c, .int .i64 x, .int .i64 y, .int .i64 z], .agg #[.int .i64 k, .string t, .int .i64 n]] w' fun e w2 => e = .returned (.int .i64 (Act.fitE s a b c x y z k t n)) ∧ Gr w' w2) := fun w' => actFits_any s a b c x y z k n t w' hs ht hF1 hF2 hK1 hK2
  rcases Act.fit_cases s a b c x y z k t n with ⟨h0, hacc, hact, rfl⟩ | h2
  · have hE : Act.mvE Act.chUn t a b c x y z k t n = Act.both (Act.chUn.e (Act.oF k) a b c n) (Act.eK Act.chUn k x y z n) := by unfold Act.mvE Act.both; rw [if_pos h0]
    rw [hE]
    rw [h0] at HF
    have hk := ((Act.act_iff k t n).1 hact).1
    exact move_goU t a b c x y z k n t (Act.wF k) (Act.wK k) _ _ _ _ _ _ _ _ w HF (fun w' => ways_any k w') (fun w' => clone_any t w' (by have := Act.name_pos ((Act.acc_iff t a b c x y z).1 hacc).1; omega))
      (fun w' => undo_any a b c n (Act.oF k) w' hF2 hF1)
      (fun hg w' => by
        have := undo_any x y z n (Act.oK k) w' hK2 hK1
        unfold Act.hK Act.iK Act.uK Act.eK
        rw [if_neg hg, if_neg hg, if_neg hg, if_neg hg]
        exact this)
      (fun hg => by
        unfold Act.hK Act.iK Act.uK Act.eK
        rw [if_pos hg, if_pos hg, if_pos hg, if_pos hg]
        exact ⟨rfl, rfl, rfl, rfl⟩) (Act.wF_ne hk.1 hk.2)
  · have hne : Act.fitE s a b c x y z k t n ≠ 0 := by rcases h2 with h | h <;> rw [h] <;> decide
    have hE : Act.mvE Act.chUn s a b c x y z k t n = Act.fitE s a b c x y z k t n := by unfold Act.mvE; rw [if_neg hne]
    have hp : ∀ v, Pot.pick (Act.fitE s a b c x y z k t n) v = 0 := fun v => by unfold Pot.pick; rw [if_neg hne]
    have hq : Act.pickS (Act.fitE s a b c x y z k t n) s = ⟨#[]⟩ := by unfold Act.pickS; rw [if_neg hne]
    rw [hE, hp, hp, hp, hp, hp, hp, hq]
    exact move_fit 87 s a b c x y z k n t _ w HF hne

set_option maxHeartbeats 1000000 in
theorem actU_any (s : ByteArray) (a b c x y z : Int) (k n : Int) (t : ByteArray) (w : World) (hs : s.size ≤ 9223372036854775807) (ht : t.size ≤ 9223372036854775807) (hF1 : a ≤ 9223372036854775807) (hF2 : c ≤ 9223372036854775807) (hK1 : x ≤ 9223372036854775807) (hK2 : z ≤ 9223372036854775807) :
    Calls Try.prog 61 #[.agg #[.string s, .int .i64 a, .int .i64 b, .int .i64 c, .int .i64 x, .int .i64 y, .int .i64 z], .agg #[.int .i64 k, .string t, .int .i64 n]] w fun e w' =>
      e = .returned (.tuple #[.agg #[.string (Act.pickS (Act.mvE Act.chUn s a b c x y z k t n) s), .int .i64 (Pot.pick (Act.mvE Act.chUn s a b c x y z k t n) (Act.chUn.h (Act.oF k) a b c n)), .int .i64 (Pot.pick (Act.mvE Act.chUn s a b c x y z k t n) (Act.chUn.i (Act.oF k) a b c n)), .int .i64 (Pot.pick (Act.mvE Act.chUn s a b c x y z k t n) (Act.chUn.o (Act.oF k) a b c n)), .int .i64 (Pot.pick (Act.mvE Act.chUn s a b c x y z k t n) (Act.hK Act.chUn k x y z n)), .int .i64 (Pot.pick (Act.mvE Act.chUn s a b c x y z k t n) (Act.iK Act.chUn k x y z n)), .int .i64 (Pot.pick (Act.mvE Act.chUn s a b c x y z k t n) (Act.uK Act.chUn k x y z n))], .int .i64 (Act.mvE Act.chUn s a b c x y z k t n)]) ∧ Gr w w' := by
  have HM : Hid (∀ w', Calls Try.prog 86 #[.agg #[.string s, .int .i64 a, .int .i64 b, .int .i64 c, .int .i64 x, .int .i64 y, .int .i64 z], .agg #[.int .i64 k, .string t, .int .i64 n], .func (.func 87) #[] #[]] w' fun e w2 =>
      e = .returned (.tuple #[.agg #[.string (Act.pickS (Act.mvE Act.chUn s a b c x y z k t n) s), .int .i64 (Pot.pick (Act.mvE Act.chUn s a b c x y z k t n) (Act.chUn.h (Act.oF k) a b c n)), .int .i64 (Pot.pick (Act.mvE Act.chUn s a b c x y z k t n) (Act.chUn.i (Act.oF k) a b c n)), .int .i64 (Pot.pick (Act.mvE Act.chUn s a b c x y z k t n) (Act.chUn.o (Act.oF k) a b c n)), .int .i64 (Pot.pick (Act.mvE Act.chUn s a b c x y z k t n) (Act.hK Act.chUn k x y z n)), .int .i64 (Pot.pick (Act.mvE Act.chUn s a b c x y z k t n) (Act.iK Act.chUn k x y z n)), .int .i64 (Pot.pick (Act.mvE Act.chUn s a b c x y z k t n) (Act.uK Act.chUn k x y z n))], .int .i64 (Act.mvE Act.chUn s a b c x y z k t n)]) ∧ Gr w' w2) := fun w' => moveU_any s a b c x y z k n t w' hs ht hF1 hF2 hK1 hK2
  clear hs ht hF1 hF2 hK1 hK2
  generalize Pot.pick (Act.mvE Act.chUn s a b c x y z k t n) (Act.chUn.h (Act.oF k) a b c n) = r1 at *
  generalize Pot.pick (Act.mvE Act.chUn s a b c x y z k t n) (Act.chUn.i (Act.oF k) a b c n) = r2 at *
  generalize Pot.pick (Act.mvE Act.chUn s a b c x y z k t n) (Act.chUn.o (Act.oF k) a b c n) = r3 at *
  generalize Pot.pick (Act.mvE Act.chUn s a b c x y z k t n) (Act.hK Act.chUn k x y z n) = r4 at *
  generalize Pot.pick (Act.mvE Act.chUn s a b c x y z k t n) (Act.iK Act.chUn k x y z n) = r5 at *
  generalize Pot.pick (Act.mvE Act.chUn s a b c x y z k t n) (Act.uK Act.chUn k x y z n) = r6 at *
  generalize Act.pickS (Act.mvE Act.chUn s a b c x y z k t n) s = r0 at *
  generalize Act.mvE Act.chUn s a b c x y z k t n = er at *
  go_enter Try.func61, Try.ntmps61
  go_wp2_with fail
  refine (HM.out _).mono ?_
  rintro e w1 ⟨rfl, hg1⟩
  have R := (AccAt.new _ _ _ _ _ _ _ _ _ (w.heap.size + 1 + 1) (by simp)).gr hg1
  obtain ⟨c0, c1, c2, c3, c4, c5, c6⟩ := R.cells
  obtain ⟨f0, f1, f2, f3, f4, f5, f6⟩ := R.frozens
  have rl := R.lt
  have g1 : Gr w w1 := (by repeat (first | exact Gr.refl _ | refine Gr.alloc ?_ | refine Gr.drew ?_ | refine Gr.trans ?_ (by assumption)))
  clear R hg1
  go_wp2
  exact bodyPost_ret (v := .tuple #[.agg #[.string r0, .int .i64 r1, .int .i64 r2, .int .i64 r3, .int .i64 r4, .int .i64 r5, .int .i64 r6], .int .i64 er]) (by simp [results, Try.results61, go_sem, *]) rfl ⟨rfl, g1.set7 _ (by omega) _ _ _ _ _ _ _⟩

theorem moveK_any (s : ByteArray) (a b c x y z : Int) (k n : Int) (t : ByteArray) (w : World) (hs : s.size ≤ 9223372036854775807) (ht : t.size ≤ 9223372036854775807) (hF1 : a ≤ 9223372036854775807) (hF2 : c ≤ 9223372036854775807) (hK1 : x ≤ 9223372036854775807) (hK2 : z ≤ 9223372036854775807) :
    Calls Try.prog 86 #[.agg #[.string s, .int .i64 a, .int .i64 b, .int .i64 c, .int .i64 x, .int .i64 y, .int .i64 z], .agg #[.int .i64 k, .string t, .int .i64 n], .func (.func 88) #[] #[]] w fun e w' =>
      e = .returned (.tuple #[.agg #[.string (Act.pickS (Act.mvE Act.chKe s a b c x y z k t n) s), .int .i64 (Pot.pick (Act.mvE Act.chKe s a b c x y z k t n) (Act.chKe.h (Act.oF k) a b c n)), .int .i64 (Pot.pick (Act.mvE Act.chKe s a b c x y z k t n) (Act.chKe.i (Act.oF k) a b c n)), .int .i64 (Pot.pick (Act.mvE Act.chKe s a b c x y z k t n) (Act.chKe.o (Act.oF k) a b c n)), .int .i64 (Pot.pick (Act.mvE Act.chKe s a b c x y z k t n) (Act.hK Act.chKe k x y z n)), .int .i64 (Pot.pick (Act.mvE Act.chKe s a b c x y z k t n) (Act.iK Act.chKe k x y z n)), .int .i64 (Pot.pick (Act.mvE Act.chKe s a b c x y z k t n) (Act.uK Act.chKe k x y z n))], .int .i64 (Act.mvE Act.chKe s a b c x y z k t n)]) ∧ Gr w w' := by
  have HF : Hid (∀ w', Calls Try.prog 101 #[.agg #[.string s, .int .i64 a, .int .i64 b, .int .i64 c, .int .i64 x, .int .i64 y, .int .i64 z], .agg #[.int .i64 k, .string t, .int .i64 n]] w' fun e w2 => e = .returned (.int .i64 (Act.fitE s a b c x y z k t n)) ∧ Gr w' w2) := fun w' => actFits_any s a b c x y z k n t w' hs ht hF1 hF2 hK1 hK2
  rcases Act.fit_cases s a b c x y z k t n with ⟨h0, hacc, hact, rfl⟩ | h2
  · have hE : Act.mvE Act.chKe t a b c x y z k t n = Act.both (Act.chKe.e (Act.oF k) a b c n) (Act.eK Act.chKe k x y z n) := by unfold Act.mvE Act.both; rw [if_pos h0]
    rw [hE]
    rw [h0] at HF
    have hk := ((Act.act_iff k t n).1 hact).1
    exact move_goK t a b c x y z k n t (Act.wF k) (Act.wK k) _ _ _ _ _ _ _ _ w HF (fun w' => ways_any k w') (fun w' => clone_any t w' (by have := Act.name_pos ((Act.acc_iff t a b c x y z).1 hacc).1; omega))
      (fun w' => keep_any a b c n (Act.oF k) w' hF2 hF1)
      (fun hg w' => by
        have := keep_any x y z n (Act.oK k) w' hK2 hK1
        unfold Act.hK Act.iK Act.uK Act.eK
        rw [if_neg hg, if_neg hg, if_neg hg, if_neg hg]
        exact this)
      (fun hg => by
        unfold Act.hK Act.iK Act.uK Act.eK
        rw [if_pos hg, if_pos hg, if_pos hg, if_pos hg]
        exact ⟨rfl, rfl, rfl, rfl⟩) (Act.wF_ne hk.1 hk.2)
  · have hne : Act.fitE s a b c x y z k t n ≠ 0 := by rcases h2 with h | h <;> rw [h] <;> decide
    have hE : Act.mvE Act.chKe s a b c x y z k t n = Act.fitE s a b c x y z k t n := by unfold Act.mvE; rw [if_neg hne]
    have hp : ∀ v, Pot.pick (Act.fitE s a b c x y z k t n) v = 0 := fun v => by unfold Pot.pick; rw [if_neg hne]
    have hq : Act.pickS (Act.fitE s a b c x y z k t n) s = ⟨#[]⟩ := by unfold Act.pickS; rw [if_neg hne]
    rw [hE, hp, hp, hp, hp, hp, hp, hq]
    exact move_fit 88 s a b c x y z k n t _ w HF hne

set_option maxHeartbeats 1000000 in
theorem actK_any (s : ByteArray) (a b c x y z : Int) (k n : Int) (t : ByteArray) (w : World) (hs : s.size ≤ 9223372036854775807) (ht : t.size ≤ 9223372036854775807) (hF1 : a ≤ 9223372036854775807) (hF2 : c ≤ 9223372036854775807) (hK1 : x ≤ 9223372036854775807) (hK2 : z ≤ 9223372036854775807) :
    Calls Try.prog 62 #[.agg #[.string s, .int .i64 a, .int .i64 b, .int .i64 c, .int .i64 x, .int .i64 y, .int .i64 z], .agg #[.int .i64 k, .string t, .int .i64 n]] w fun e w' =>
      e = .returned (.tuple #[.agg #[.string (Act.pickS (Act.mvE Act.chKe s a b c x y z k t n) s), .int .i64 (Pot.pick (Act.mvE Act.chKe s a b c x y z k t n) (Act.chKe.h (Act.oF k) a b c n)), .int .i64 (Pot.pick (Act.mvE Act.chKe s a b c x y z k t n) (Act.chKe.i (Act.oF k) a b c n)), .int .i64 (Pot.pick (Act.mvE Act.chKe s a b c x y z k t n) (Act.chKe.o (Act.oF k) a b c n)), .int .i64 (Pot.pick (Act.mvE Act.chKe s a b c x y z k t n) (Act.hK Act.chKe k x y z n)), .int .i64 (Pot.pick (Act.mvE Act.chKe s a b c x y z k t n) (Act.iK Act.chKe k x y z n)), .int .i64 (Pot.pick (Act.mvE Act.chKe s a b c x y z k t n) (Act.uK Act.chKe k x y z n))], .int .i64 (Act.mvE Act.chKe s a b c x y z k t n)]) ∧ Gr w w' := by
  have HM : Hid (∀ w', Calls Try.prog 86 #[.agg #[.string s, .int .i64 a, .int .i64 b, .int .i64 c, .int .i64 x, .int .i64 y, .int .i64 z], .agg #[.int .i64 k, .string t, .int .i64 n], .func (.func 88) #[] #[]] w' fun e w2 =>
      e = .returned (.tuple #[.agg #[.string (Act.pickS (Act.mvE Act.chKe s a b c x y z k t n) s), .int .i64 (Pot.pick (Act.mvE Act.chKe s a b c x y z k t n) (Act.chKe.h (Act.oF k) a b c n)), .int .i64 (Pot.pick (Act.mvE Act.chKe s a b c x y z k t n) (Act.chKe.i (Act.oF k) a b c n)), .int .i64 (Pot.pick (Act.mvE Act.chKe s a b c x y z k t n) (Act.chKe.o (Act.oF k) a b c n)), .int .i64 (Pot.pick (Act.mvE Act.chKe s a b c x y z k t n) (Act.hK Act.chKe k x y z n)), .int .i64 (Pot.pick (Act.mvE Act.chKe s a b c x y z k t n) (Act.iK Act.chKe k x y z n)), .int .i64 (Pot.pick (Act.mvE Act.chKe s a b c x y z k t n) (Act.uK Act.chKe k x y z n))], .int .i64 (Act.mvE Act.chKe s a b c x y z k t n)]) ∧ Gr w' w2) := fun w' => moveK_any s a b c x y z k n t w' hs ht hF1 hF2 hK1 hK2
  clear hs ht hF1 hF2 hK1 hK2
  generalize Pot.pick (Act.mvE Act.chKe s a b c x y z k t n) (Act.chKe.h (Act.oF k) a b c n) = r1 at *
  generalize Pot.pick (Act.mvE Act.chKe s a b c x y z k t n) (Act.chKe.i (Act.oF k) a b c n) = r2 at *
  generalize Pot.pick (Act.mvE Act.chKe s a b c x y z k t n) (Act.chKe.o (Act.oF k) a b c n) = r3 at *
  generalize Pot.pick (Act.mvE Act.chKe s a b c x y z k t n) (Act.hK Act.chKe k x y z n) = r4 at *
  generalize Pot.pick (Act.mvE Act.chKe s a b c x y z k t n) (Act.iK Act.chKe k x y z n) = r5 at *
  generalize Pot.pick (Act.mvE Act.chKe s a b c x y z k t n) (Act.uK Act.chKe k x y z n) = r6 at *
  generalize Act.pickS (Act.mvE Act.chKe s a b c x y z k t n) s = r0 at *
  generalize Act.mvE Act.chKe s a b c x y z k t n = er at *
  go_enter Try.func62, Try.ntmps62
  go_wp2_with fail
  refine (HM.out _).mono ?_
  rintro e w1 ⟨rfl, hg1⟩
  have R := (AccAt.new _ _ _ _ _ _ _ _ _ (w.heap.size + 1 + 1) (by simp)).gr hg1
  obtain ⟨c0, c1, c2, c3, c4, c5, c6⟩ := R.cells
  obtain ⟨f0, f1, f2, f3, f4, f5, f6⟩ := R.frozens
  have rl := R.lt
  have g1 : Gr w w1 := (by repeat (first | exact Gr.refl _ | refine Gr.alloc ?_ | refine Gr.drew ?_ | refine Gr.trans ?_ (by assumption)))
  clear R hg1
  go_wp2
  exact bodyPost_ret (v := .tuple #[.agg #[.string r0, .int .i64 r1, .int .i64 r2, .int .i64 r3, .int .i64 r4, .int .i64 r5, .int .i64 r6], .int .i64 er]) (by simp [results, Try.results62, go_sem, *]) rfl ⟨rfl, g1.set7 _ (by omega) _ _ _ _ _ _ _⟩

end Go.Proofs.Ytiakajheoajepaa
