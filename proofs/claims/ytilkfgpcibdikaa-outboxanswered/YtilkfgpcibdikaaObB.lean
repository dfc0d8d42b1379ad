
/- outbox: itemMayBe, May. -/
import Derived.Test.YtilkfgpcibdikaaObA
import Derived.Test.YtilkfgpcibdikaaNtP
import Derived.Test.YtilkfgpcibdikaaRegH
namespace Go.Proofs.Ytilkfgpcibdikaa
open Go.RowKit

def ckB (x : Nt) : Bool := Nt.ckE x == 0
theorem ck_okN (x : Nt) : (Nt.ckE x == 0) = okN (pk x) := by
  rw [okN_pk]
  unfold Nt.ckE
  cases Nt.ntB x <;> rfl
theorem one_parts (q d s : Int) (x : Nt) (c : Bool) (hc : c = okN (pk x)) : Ox.one okN (⟨q, d, s, pk x⟩ : Ox.It Nx) = (Nt.inB q 1 1000000000 && Nt.inB d 0 1000000016 && Nt.inB s 0 1000000 && c) := by
  subst hc
  unfold Ox.one Nt.inB
  rw [Bool.eq_iff_iff]
  simp only [Bool.and_eq_true, decide_eq_true_eq]
  constructor
  · rintro ⟨⟨⟨h1, h2⟩, h3⟩, h4⟩; exact ⟨⟨⟨h1, h3⟩, h4⟩, h2⟩
  · rintro ⟨⟨⟨h1, h3⟩, h4⟩, h2⟩; exact ⟨⟨⟨h1, h2⟩, h3⟩, h4⟩
set_option maxHeartbeats 2000000 in
set_option maxRecDepth 100000 in
theorem itemMay_any (x : Mi) (w : World) (h : MnAt w x.m) :
    Calls Try.prog 32 #[x.v] w fun e w' => e = .returned (.bool (Ox.one okN x.it)) ∧ Gr w w' := by
  have HN : Hid (∀ w', Gr w w' → Calls Try.prog 41 #[x.m.v] w' fun e w2 => e = .returned (.int .i64 (Nt.ckE x.m.x)) ∧ Gr w' w2) := fun w' g => nCheck_any x.m.x.k x.m.x.r x.m.x.n x.m.x.L x.m.x.d x.m.x.y x.m.ad x.m.cap w' (h.hp.gr g) h.hl h.hd
  have HW0 : Hid (∀ w', Calls Try.prog 24 #[.int .i64 x.q, .int .i64 1, .int .i64 1000000000] w' fun e w2 => e = .returned (.bool (Nt.inB x.q 1 1000000000)) ∧ w2 = w') := fun w' => oWithin_any _ _ _ w'
  have HW1 : Hid (∀ w', Calls Try.prog 24 #[.int .i64 x.d, .int .i64 0, .int .i64 1000000016] w' fun e w2 => e = .returned (.bool (Nt.inB x.d 0 1000000016)) ∧ w2 = w') := fun w' => oWithin_any _ _ _ w'
  have HW2 : Hid (∀ w', Calls Try.prog 24 #[.int .i64 x.s, .int .i64 0, .int .i64 1000000] w' fun e w2 => e = .returned (.bool (Nt.inB x.s 0 1000000)) ∧ w2 = w') := fun w' => oWithin_any _ _ _ w'
  have HE : Hid (Ox.one okN x.it = (Nt.inB x.q 1 1000000000 && Nt.inB x.d 0 1000000016 && Nt.inB x.s 0 1000000 && (Nt.ckE x.m.x == 0))) := one_parts _ _ _ _ _ (ck_okN _)
  generalize Ox.one okN x.it = R at *
  generalize Nt.inB x.q 1 1000000000 = b0 at *
  generalize Nt.inB x.d 0 1000000016 = b1 at *
  generalize Nt.inB x.s 0 1000000 = b2 at *
  generalize Nt.ckE x.m.x = c at *
  clear h
  obtain ⟨q, dd, s, ⟨⟨k, r, n, L, d, y⟩, ad, cap⟩⟩ := x
  dsimp only [Mn.v, Mi.v] at *
  generalize L.length = ll at *
  cases b0 with
  | false =>
    go_enter Try.func32, Try.ntmps32
    go_wp2_with fail
    refine (HW0.out _).mono ?_
    rintro e1 w1 ⟨rfl, hw1⟩; obtain rfl := hw1.symm
    go_wp2
    go_ret
    exact ⟨by rw [HE.out]; rfl, (by repeat (first | exact Gr.refl _ | refine Gr.alloc ?_ | refine Gr.drew ?_ | refine Gr.trans ?_ (by assumption)))⟩
  | true =>
    cases b1 with
    | false =>
      go_enter Try.func32, Try.ntmps32
      go_wp2_with fail
      refine (HW0.out _).mono ?_
      rintro e1 w1 ⟨rfl, hw1⟩; obtain rfl := hw1.symm
      go_wp2_with fail
      refine (HW1.out _).mono ?_
      rintro e1 w1 ⟨rfl, hw1⟩; obtain rfl := hw1.symm
      go_wp2
      go_ret
      exact ⟨by rw [HE.out]; rfl, (by repeat (first | exact Gr.refl _ | refine Gr.alloc ?_ | refine Gr.drew ?_ | refine Gr.trans ?_ (by assumption)))⟩
    | true =>
      cases b2 with
      | false =>
        go_enter Try.func32, Try.ntmps32
        go_wp2_with fail
        refine (HW0.out _).mono ?_
        rintro e1 w1 ⟨rfl, hw1⟩; obtain rfl := hw1.symm
        go_wp2_with fail
        refine (HW1.out _).mono ?_
        rintro e1 w1 ⟨rfl, hw1⟩; obtain rfl := hw1.symm
        go_wp2_with fail
        refine (HW2.out _).mono ?_
        rintro e1 w1 ⟨rfl, hw1⟩; obtain rfl := hw1.symm
        go_wp2
        go_ret
        exact ⟨by rw [HE.out]; rfl, (by repeat (first | exact Gr.refl _ | refine Gr.alloc ?_ | refine Gr.drew ?_ | refine Gr.trans ?_ (by assumption)))⟩
      | true =>
        go_enter Try.func32, Try.ntmps32
        go_wp2_with fail
        refine (HW0.out _).mono ?_
        rintro e1 w1 ⟨rfl, hw1⟩; obtain rfl := hw1.symm
        go_wp2_with fail
        refine (HW1.out _).mono ?_
        rintro e1 w1 ⟨rfl, hw1⟩; obtain rfl := hw1.symm
        go_wp2_with fail
        refine (HW2.out _).mono ?_
        rintro e1 w1 ⟨rfl, hw1⟩; obtain rfl := hw1.symm
        go_wp2_with fail
        refine (HN.out _ ?_).mono ?_
        · exact (by repeat (first | exact Gr.refl _ | refine Gr.alloc ?_ | refine Gr.drew ?_ | refine Gr.trans ?_ (by assumption)))
        rintro e1 w1 ⟨rfl, hg1⟩
        go_wp2
        go_ret
        exact ⟨by rw [HE.out]; rfl, (by repeat (first | exact Gr.refl _ | refine Gr.alloc ?_ | refine Gr.drew ?_ | refine Gr.trans ?_ (by assumption)))⟩

/- an outbox: place by place -/
def mayE (D : List Mi) : Int := if Ox.mayB okN (its D) = true then 0 else 2
theorem mayE_big {D : List Mi} (h : 12 < D.length) : mayE D = 2 := by
  unfold mayE Ox.mayB
  rw [its_len, decide_eq_false (by omega)]; rfl
theorem mayE_no {D : List Mi} {k : Nat} (hk : k < D.length) (h : Ox.at_ okN (its D) k = false) : mayE D = 2 := by
  unfold mayE
  rw [Ox.mayB_no (by rw [its_len]; exact hk) h]; rfl
theorem mayE_yes {D : List Mi} (hl : D.length ≤ 12) (h : ∀ j, j < D.length → Ox.at_ okN (its D) j = true) : mayE D = 0 := by
  unfold mayE Ox.mayB
  rw [its_len, decide_eq_true hl, Bool.true_and, List.all_eq_true.2 (fun j hj => h j (List.mem_range.1 hj))]; rfl
theorem at_zero {D : List Mi} (h : 0 < D.length) : Ox.at_ okN (its D) 0 = (Ox.one okN D[0].it && !Ox.among (its (D.take 0)) (pk D[0].m.x)) := by
  unfold Ox.at_
  rw [its_get? D 0 h, its_take]
  simp [Mi.it]
theorem at_succ {D : List Mi} {k : Nat} (h : k + 1 < D.length) : Ox.at_ okN (its D) (k + 1) = (Ox.one okN D[k + 1].it && !decide (D[k + 1].q ≤ D[k].q) && !Ox.among (its (D.take (k + 1))) (pk D[k + 1].m.x)) := by
  unfold Ox.at_
  rw [its_get? D (k + 1) h, its_take]
  simp only [Nat.add_sub_cancel, its_get? D k (by omega)]
  have : decide (k + 1 = 0) = false := by simp
  rw [this, Bool.false_or]
  have e : (decide (D[k].it.q < D[k + 1].it.q)) = !decide (D[k + 1].q ≤ D[k].q) := by
    show decide (D[k].q < D[k + 1].q) = _
    rw [Bool.eq_iff_iff]; simp
  rw [e]; rfl
/- an item in a box, and one cell beside it, are kept -/
theorem hold10 {a b : World} (g : Gr a b) {B : Nat} {v0 v1 v2 v3 v4 v5 v6 v7 v8 : Value} (h : Cs a B [v0, v1, v2, v3, v4, v5, v6, v7, v8]) {p : Addr} {u : Value} (hp : a.cell? p = some u) :
    Gr a b ∧ b.cell? ⟨B, 0, none⟩ = some v0 ∧ b.cell? ⟨B, 1, none⟩ = some v1 ∧ b.cell? ⟨B, 2, none⟩ = some v2 ∧ b.cell? ⟨B, 3, none⟩ = some v3 ∧ b.cell? ⟨B, 4, none⟩ = some v4 ∧ b.cell? ⟨B, 5, none⟩ = some v5 ∧ b.cell? ⟨B, 6, none⟩ = some v6 ∧ b.cell? ⟨B, 7, none⟩ = some v7 ∧ b.cell? ⟨B, 8, none⟩ = some v8 ∧ b.cell? p = some u :=
  ⟨g, g.keep (h.at_ 0 _ rfl), g.keep (h.at_ 1 _ rfl), g.keep (h.at_ 2 _ rfl), g.keep (h.at_ 3 _ rfl), g.keep (h.at_ 4 _ rfl), g.keep (h.at_ 5 _ rfl), g.keep (h.at_ 6 _ rfl), g.keep (h.at_ 7 _ rfl), g.keep (h.at_ 8 _ rfl), g.keep hp⟩
end Go.Proofs.Ytilkfgpcibdikaa
