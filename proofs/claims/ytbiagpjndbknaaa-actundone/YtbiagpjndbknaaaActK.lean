/- awake: some answers that the document fixes. -/
import Derived.Test.YtbiagpjndbknaaaActD
namespace Go.Proofs.Ytbiagpjndbknaaa
open Go.RowKit

def cashS : ByteArray := ⟨#[99, 97, 115, 104]⟩
theorem cash_name : Act.nameB cashS = true := by decide
theorem fit_cash (a b c x y z k n : Int) (h1 : Pot.mayB a b c = true) (h2 : Pot.mayB x y z = true) (hk : 1 ≤ k ∧ k ≤ 4) (hn : 1 ≤ n ∧ n ≤ 1000000000000000) : Act.fitE cashS a b c x y z k cashS n = 0 := by
  unfold Act.fitE
  rw [if_pos ((Act.acc_iff _ _ _ _ _ _ _).2 ⟨cash_name, h1, h2⟩), if_pos]
  rw [Bool.and_eq_true]
  exact ⟨(Act.act_iff _ _ _).2 ⟨hk, cash_name, hn⟩, decide_eq_true rfl⟩
theorem mv_cash (C : Act.Ch) (a b c x y z k n : Int) (h1 : Pot.mayB a b c = true) (h2 : Pot.mayB x y z = true) (hk : 1 ≤ k ∧ k ≤ 4) (hn : 1 ≤ n ∧ n ≤ 1000000000000000) :
    Act.mvE C cashS a b c x y z k cashS n = Act.both (C.e (Act.oF k) a b c n) (Act.eK C k x y z n) := by
  unfold Act.mvE Act.both; rw [fit_cash a b c x y z k n h1 h2 hk hn, if_pos rfl]

set_option maxHeartbeats 4000000 in
set_option maxRecDepth 100000 in
theorem awake_any (w : World) : Calls Try.prog 15 #[] w fun e w' => e = .returned (.bool true) ∧ Gr w w' := by
  have H1 : Hid (∀ w', Calls Try.prog 16 #[.agg #[.string ⟨#[99, 97, 115, 104]⟩, .int .i64 10, .int .i64 0, .int .i64 0, .int .i64 0, .int .i64 0, .int .i64 0], .agg #[.int .i64 3, .string ⟨#[99, 97, 115, 104]⟩, .int .i64 4]] w' fun e w2 => e = .returned (.tuple #[.agg #[.string ⟨#[99, 97, 115, 104]⟩, .int .i64 6, .int .i64 0, .int .i64 4, .int .i64 4, .int .i64 4, .int .i64 0], .int .i64 0]) ∧ Gr w' w2) := by
    intro w'
    have := actD_any cashS 10 0 0 0 0 0 3 4 cashS w' (by decide) (by decide) (by omega) (by omega) (by omega) (by omega)
    rw [mv_cash _ _ _ _ _ _ _ _ _ (by decide) (by decide) (by omega) (by omega)] at this
    exact this
  have H2 : Hid (∀ w', Calls Try.prog 16 #[.agg #[.string ⟨#[99, 97, 115, 104]⟩, .int .i64 6, .int .i64 0, .int .i64 4, .int .i64 4, .int .i64 4, .int .i64 0], .agg #[.int .i64 4, .string ⟨#[99, 97, 115, 104]⟩, .int .i64 1]] w' fun e w2 => e = .returned (.tuple #[.agg #[.string ⟨#[]⟩, .int .i64 0, .int .i64 0, .int .i64 0, .int .i64 0, .int .i64 0, .int .i64 0], .int .i64 50]) ∧ Gr w' w2) := by
    intro w'
    have := actD_any cashS 6 0 4 4 4 0 4 1 cashS w' (by decide) (by decide) (by omega) (by omega) (by omega) (by omega)
    rw [mv_cash _ _ _ _ _ _ _ _ _ (by decide) (by decide) (by omega) (by omega)] at this
    exact this
  have H3 : Hid (∀ w', Calls Try.prog 7 #[.agg #[.int .i64 4, .string ⟨#[99, 97, 115, 104]⟩, .int .i64 3]] w' fun e w2 => e = .returned (.tuple #[.int .i64 3, .int .i64 (-3)]) ∧ Gr w' w2) := by
    intro w'
    have := delta_any 4 3 cashS w' (by decide)
    have hb : Act.actB 4 cashS 3 = true := (Act.act_iff _ _ _).2 ⟨by omega, cash_name, by omega⟩
    rw [show Act.dF 4 cashS 3 = 3 by unfold Act.dF; rw [if_pos hb]; rfl, show Act.dK 4 cashS 3 = -3 by unfold Act.dK; rw [if_pos hb]; rfl] at this
    exact this
  have H4 : Hid (∀ w', Calls Try.prog 9 #[.string ⟨#[97, 49]⟩] w' fun e w2 => e = .returned (.bool true) ∧ w2 = w') := by
    intro w'
    have := name_any ⟨#[97, 49]⟩ w' (by decide)
    rwa [show Act.nameB ⟨#[97, 49]⟩ = true by decide] at this
  have H5 : Hid (∀ w', Calls Try.prog 9 #[.string ⟨#[49, 97]⟩] w' fun e w2 => e = .returned (.bool false) ∧ w2 = w') := by
    intro w'
    have := name_any ⟨#[49, 97]⟩ w' (by decide)
    rwa [show Act.nameB ⟨#[49, 97]⟩ = false by decide] at this
  have H6 : Hid (∀ w', Calls Try.prog 11 #[.agg #[.int .i64 0, .string ⟨#[]⟩, .int .i64 0]] w' fun e w2 => e = .returned (.int .i64 60) ∧ Gr w' w2) := by
    intro w'
    have := actCheck_any 0 0 ⟨#[]⟩ w' (by decide)
    rwa [show Act.chkE 0 ⟨#[]⟩ 0 = 60 by decide] at this
  have H7 : Hid (∀ w', Calls Try.prog 13 #[.agg #[.string ⟨#[]⟩, .int .i64 0, .int .i64 0, .int .i64 0, .int .i64 0, .int .i64 0, .int .i64 0]] w' fun e w2 => e = .returned (.int .i64 2) ∧ Gr w' w2) := by
    intro w'
    have := may_any ⟨#[]⟩ 0 0 0 0 0 0 w' (by decide) (by omega) (by omega) (by omega) (by omega)
    rwa [show Act.mayE ⟨#[]⟩ 0 0 0 0 0 0 = 2 by decide] at this
  go_enter Try.func15, Try.ntmps15
  go_wp2_with fail
  refine (H1.out _).mono ?_
  rintro e w1 ⟨rfl, hg1⟩
  have G : Gr w w1 := (by repeat (first | exact Gr.refl _ | refine Gr.alloc ?_ | refine Gr.drew ?_ | refine Gr.trans ?_ (by assumption)))
  clear hg1
  go_wp2_with fail
  refine (H2.out _).mono ?_
  rintro e w2 ⟨rfl, hg2⟩
  have Y := (AccAt.new w1 _ _ _ _ _ _ _ _ _ rfl).gr hg2
  have G := G.trans ((Gr.refl _).alloc.trans hg2)
  clear hg2
  go_wp2_with fail
  refine (H3.out _).mono ?_
  rintro e w3 ⟨rfl, hg3⟩
  have Y := Y.gr ((Gr.refl _).alloc.trans hg3)
  have G := G.trans ((Gr.refl _).alloc.trans hg3)
  obtain ⟨y0, y1, y2, y3, y4, y5, y6⟩ := Y.cells
  clear hg3
  go_wp2_with fail
  refine (H4.out _).mono ?_
  rintro e w4 ⟨rfl, hw4⟩; obtain rfl := hw4.symm
  go_wp2_with fail
  refine (H5.out _).mono ?_
  rintro e w4 ⟨rfl, hw4⟩; obtain rfl := hw4.symm
  go_wp2_with fail
  refine (H6.out _).mono ?_
  rintro e w4 ⟨rfl, hg4⟩
  go_wp2_with fail
  refine (H7.out _).mono ?_
  rintro e w5 ⟨rfl, hg5⟩
  go_wp2
  go_ret
  exact ⟨rfl, (G.trans hg4).trans hg5⟩
end Go.Proofs.Ytbiagpjndbknaaa
