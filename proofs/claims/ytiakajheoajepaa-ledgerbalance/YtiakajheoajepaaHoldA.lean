/- act: move, where the account does not fit; and what the walk of move holds. -/
import Derived.Test.YtiakajheoajepaaActW
import Derived.Test.YtiakajheoajepaaSixA
import Derived.Deep.DeepCutAuto
namespace Go.Proofs.Ytiakajheoajepaa
open Go.RowKit

theorem hold4 {W w' : World} (h : Gr W w') {p q r u : Addr} {a b c d : Value} (h0 : W.cell? p = some a) (h1 : W.cell? q = some b) (h2 : W.cell? r = some c) (h3 : W.cell? u = some d) : Gr W w' ∧ w'.cell? p = some a ∧ w'.cell? q = some b ∧ w'.cell? r = some c ∧ w'.cell? u = some d :=
  ⟨h, h.keep h0, h.keep h1, h.keep h2, h.keep h3⟩

theorem holdM_gr {w W w' : World} {g : Nat} {q0 q1 q2 q3 q4 q5 q6 : Addr} {v0 v1 v2 v3 v4 v5 v6 : Value}
    (h : Gr w W ∧ W.cell? q0 = some v0 ∧ W.cell? q1 = some v1 ∧ W.cell? q2 = some v2 ∧ W.cell? q3 = some v3 ∧ W.cell? q4 = some v4 ∧ W.cell? q5 = some v5 ∧ W.cell? q6 = some v6 ∧ RoomB W g) (k : Gr W w') :
    Gr w w' ∧ w'.cell? q0 = some v0 ∧ w'.cell? q1 = some v1 ∧ w'.cell? q2 = some v2 ∧ w'.cell? q3 = some v3 ∧ w'.cell? q4 = some v4 ∧ w'.cell? q5 = some v5 ∧ w'.cell? q6 = some v6 ∧ RoomB w' g :=
  ⟨h.1.trans k, k.keep h.2.1, k.keep h.2.2.1, k.keep h.2.2.2.1, k.keep h.2.2.2.2.1, k.keep h.2.2.2.2.2.1, k.keep h.2.2.2.2.2.2.1, k.keep h.2.2.2.2.2.2.2.1, h.2.2.2.2.2.2.2.2.gr k⟩
theorem far7 {W : World} {g : Nat} (q : Addr) (h : g ≠ q.block) (u0 u1 u2 u3 u4 u5 u6 : Value) :
    (((((((W.setCell ⟨g, 0, none⟩ u0).setCell ⟨g, 1, none⟩ u1).setCell ⟨g, 2, none⟩ u2).setCell ⟨g, 3, none⟩ u3).setCell ⟨g, 4, none⟩ u4).setCell ⟨g, 5, none⟩ u5).setCell ⟨g, 6, none⟩ u6).cell? q = W.cell? q := by
  rw [World.cell?_setCell_far _ _ _ _ h, World.cell?_setCell_far _ _ _ _ h, World.cell?_setCell_far _ _ _ _ h, World.cell?_setCell_far _ _ _ _ h, World.cell?_setCell_far _ _ _ _ h, World.cell?_setCell_far _ _ _ _ h, World.cell?_setCell_far _ _ _ _ h]
theorem holdM_set {w W : World} {P Z g : Nat} {v0 v1 v2 v3 v4 v5 v6 : Value}
    (h : Gr w W ∧ W.cell? ⟨P, 0, none⟩ = some v0 ∧ W.cell? ⟨P, 1, none⟩ = some v1 ∧ W.cell? ⟨P, 2, none⟩ = some v2 ∧ W.cell? ⟨P, 3, none⟩ = some v3 ∧ W.cell? ⟨P, 4, none⟩ = some v4 ∧ W.cell? ⟨P, 5, none⟩ = some v5 ∧ W.cell? ⟨Z, 0, none⟩ = some v6 ∧ RoomB W g) (hg : w.heap.size ≤ g) (hP : g ≠ P) (hZ : g ≠ Z) (u0 u1 u2 u3 u4 u5 u6 : Value) :
    Gr w (((((((W.setCell ⟨g, 0, none⟩ u0).setCell ⟨g, 1, none⟩ u1).setCell ⟨g, 2, none⟩ u2).setCell ⟨g, 3, none⟩ u3).setCell ⟨g, 4, none⟩ u4).setCell ⟨g, 5, none⟩ u5).setCell ⟨g, 6, none⟩ u6) ∧ (((((((W.setCell ⟨g, 0, none⟩ u0).setCell ⟨g, 1, none⟩ u1).setCell ⟨g, 2, none⟩ u2).setCell ⟨g, 3, none⟩ u3).setCell ⟨g, 4, none⟩ u4).setCell ⟨g, 5, none⟩ u5).setCell ⟨g, 6, none⟩ u6).cell? ⟨P, 0, none⟩ = some v0 ∧ (((((((W.setCell ⟨g, 0, none⟩ u0).setCell ⟨g, 1, none⟩ u1).setCell ⟨g, 2, none⟩ u2).setCell ⟨g, 3, none⟩ u3).setCell ⟨g, 4, none⟩ u4).setCell ⟨g, 5, none⟩ u5).setCell ⟨g, 6, none⟩ u6).cell? ⟨P, 1, none⟩ = some v1 ∧ (((((((W.setCell ⟨g, 0, none⟩ u0).setCell ⟨g, 1, none⟩ u1).setCell ⟨g, 2, none⟩ u2).setCell ⟨g, 3, none⟩ u3).setCell ⟨g, 4, none⟩ u4).setCell ⟨g, 5, none⟩ u5).setCell ⟨g, 6, none⟩ u6).cell? ⟨P, 2, none⟩ = some v2 ∧ (((((((W.setCell ⟨g, 0, none⟩ u0).setCell ⟨g, 1, none⟩ u1).setCell ⟨g, 2, none⟩ u2).setCell ⟨g, 3, none⟩ u3).setCell ⟨g, 4, none⟩ u4).setCell ⟨g, 5, none⟩ u5).setCell ⟨g, 6, none⟩ u6).cell? ⟨P, 3, none⟩ = some v3 ∧ (((((((W.setCell ⟨g, 0, none⟩ u0).setCell ⟨g, 1, none⟩ u1).setCell ⟨g, 2, none⟩ u2).setCell ⟨g, 3, none⟩ u3).setCell ⟨g, 4, none⟩ u4).setCell ⟨g, 5, none⟩ u5).setCell ⟨g, 6, none⟩ u6).cell? ⟨P, 4, none⟩ = some v4 ∧ (((((((W.setCell ⟨g, 0, none⟩ u0).setCell ⟨g, 1, none⟩ u1).setCell ⟨g, 2, none⟩ u2).setCell ⟨g, 3, none⟩ u3).setCell ⟨g, 4, none⟩ u4).setCell ⟨g, 5, none⟩ u5).setCell ⟨g, 6, none⟩ u6).cell? ⟨P, 5, none⟩ = some v5 ∧ (((((((W.setCell ⟨g, 0, none⟩ u0).setCell ⟨g, 1, none⟩ u1).setCell ⟨g, 2, none⟩ u2).setCell ⟨g, 3, none⟩ u3).setCell ⟨g, 4, none⟩ u4).setCell ⟨g, 5, none⟩ u5).setCell ⟨g, 6, none⟩ u6).cell? ⟨Z, 0, none⟩ = some v6 ∧ RoomB (((((((W.setCell ⟨g, 0, none⟩ u0).setCell ⟨g, 1, none⟩ u1).setCell ⟨g, 2, none⟩ u2).setCell ⟨g, 3, none⟩ u3).setCell ⟨g, 4, none⟩ u4).setCell ⟨g, 5, none⟩ u5).setCell ⟨g, 6, none⟩ u6) g :=
  ⟨h.1.set7 _ hg _ _ _ _ _ _ _, (far7 ⟨P, 0, none⟩ hP _ _ _ _ _ _ _).trans h.2.1, (far7 ⟨P, 1, none⟩ hP _ _ _ _ _ _ _).trans h.2.2.1, (far7 ⟨P, 2, none⟩ hP _ _ _ _ _ _ _).trans h.2.2.2.1, (far7 ⟨P, 3, none⟩ hP _ _ _ _ _ _ _).trans h.2.2.2.2.1, (far7 ⟨P, 4, none⟩ hP _ _ _ _ _ _ _).trans h.2.2.2.2.2.1, (far7 ⟨P, 5, none⟩ hP _ _ _ _ _ _ _).trans h.2.2.2.2.2.2.1, (far7 ⟨Z, 0, none⟩ hZ _ _ _ _ _ _ _).trans h.2.2.2.2.2.2.2.1, h.2.2.2.2.2.2.2.2.set7 _ _ _ _ _ _ _⟩

/- where the first or the second pot refuses, or the account does not fit: nothing, and the error -/
set_option maxHeartbeats 4000000 in
set_option maxRecDepth 100000 in
theorem move_fit (kf : Nat) (s : ByteArray) (a b c x y z : Int) (k n : Int) (t : ByteArray) (er : Int) (w : World)
    (HF : Hid (∀ w', Calls Try.prog 101 #[.agg #[.string s, .int .i64 a, .int .i64 b, .int .i64 c, .int .i64 x, .int .i64 y, .int .i64 z], .agg #[.int .i64 k, .string t, .int .i64 n]] w' fun e w2 => e = .returned (.int .i64 er) ∧ Gr w' w2)) (her : er ≠ 0) :
    Calls Try.prog 86 #[.agg #[.string s, .int .i64 a, .int .i64 b, .int .i64 c, .int .i64 x, .int .i64 y, .int .i64 z], .agg #[.int .i64 k, .string t, .int .i64 n], .func (.func kf) #[] #[]] w fun e w' =>
      e = .returned (.tuple #[.agg #[.string ⟨#[]⟩, .int .i64 0, .int .i64 0, .int .i64 0, .int .i64 0, .int .i64 0, .int .i64 0], .int .i64 er]) ∧ Gr w w' := by
  have hne : (er != 0) = true := by simpa using her
  clear her
  go_enter Try.func86, Try.ntmps86
  go_wp2_with fail
  refine (HF.out _).mono ?_
  rintro e w1 ⟨rfl, hg1⟩
  have R := (AccAt.new _ _ _ _ _ _ _ _ _ (w.heap.size + 1 + 1) (by simp)).gr hg1
  obtain ⟨r0, r1, r2, r3, r4, r5, r6⟩ := R.cells
  obtain ⟨f0, f1, f2, f3, f4, f5, f6⟩ := R.frozens
  have rl := R.lt
  clear R
  go_wp2
  exact bodyPost_ret (v := .tuple #[.agg #[.string ⟨#[]⟩, .int .i64 0, .int .i64 0, .int .i64 0, .int .i64 0, .int .i64 0, .int .i64 0], .int .i64 er]) (by simp [results, Try.results86, go_sem, *]) rfl ⟨rfl, (by (repeat' (first | with_reducible exact Gr.refl _ | with_reducible refine Gr.set ?_ _ ?_ _ | with_reducible refine Gr.alloc ?_ | with_reducible refine Gr.drew ?_ | with_reducible refine Gr.trans ?_ (by assumption))) <;> (first | (simp; done) | (simp; omega) | omega))⟩

end Go.Proofs.Ytiakajheoajepaa
