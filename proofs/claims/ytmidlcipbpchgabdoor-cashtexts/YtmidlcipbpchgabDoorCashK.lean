/- awake: some answers that the document fixes. -/
import Derived.Test.YtmidlcipbpchgabDoorCashS
import Derived.Test.YtmidlcipbpchgabDoorCashX
import Derived.Test.YtmidlcipbpchgabDoorCashW
namespace Go.Proofs.YtmidlcipbpchgabDoor
open Go.RowKit

theorem times_all (a n : Int) (w : World) (ha : -9223372036854775808 ≤ a) (ha1 : a ≤ 9223372036854775807) (hn : -9223372036854775808 ≤ n) (hn1 : n ≤ 9223372036854775807) :
    Calls Tryd.prog 22 #[.int .i64 a, .int .i64 n] w fun e w' => e = .returned (.tuple #[.int .i64 (Csh.valE (a * n)), .int .i64 (Csh.errE (a * n))]) ∧ w' = w :=
  times_any a n w ha ha1 hn hn1 (fun x y hx hy => Tryd.bits_Mul64 x y hx hy w)

theorem show_5 : Csh.showE (-5) = [45, 48, 46, 48, 53] := by
  show 45 :: (Lib.decDigits 0 ++ [46, Csh.dig 0, Csh.dig 5]) = _
  rw [Csh.dec_one 0 (by omega)]; rfl
theorem show_1234 : Csh.showE 1234 = [49, 50, 46, 51, 52] := by
  show Lib.decDigits 12 ++ [46, Csh.dig 123, Csh.dig 1234] = _
  rw [Csh.dec_snoc 12 (by omega), Csh.dec_one (12 / 10) (by omega)]; rfl

set_option maxHeartbeats 4000000 in
set_option maxRecDepth 100000 in
theorem awake_any (w : World) (he : Env w) : Calls Tryd.prog 19 #[] w fun e w' => e = .returned (.bool true) ∧ Gr w w' := by
  have HA : Hid (∀ (w' : World) (g : Nat), IntsAt w' (some ⟨g, 0, none⟩) [9223372036854775807, 1, -1] → Calls Tryd.prog 20 #[.slice (some ⟨g, 0, none⟩) 3 3] w' fun e w2 => e = .returned (.tuple #[.int .i64 9223372036854775807, .int .i64 0]) ∧ w2 = w') := by
    intro w' g h
    have := sum_any [9223372036854775807, 1, -1] _ 3 w' h (by simp) (by simp)
    rw [show Csh.sumE [9223372036854775807, 1, -1] = 9223372036854775807 by decide] at this
    exact this
  have HB : Hid (∀ (w' : World) (g : Nat), IntsAt w' (some ⟨g, 0, none⟩) [9223372036854775807, 1] → Calls Tryd.prog 20 #[.slice (some ⟨g, 0, none⟩) 2 2] w' fun e w2 => e = .returned (.tuple #[.int .i64 0, .int .i64 40]) ∧ w2 = w') := by
    intro w' g h
    have := sum_any [9223372036854775807, 1] _ 2 w' h (by simp) (by simp)
    rw [show Csh.sumE [9223372036854775807, 1] = 9223372036854775808 by decide] at this
    exact this
  have HT : Hid (∀ (w' : World), Calls Tryd.prog 22 #[.int .i64 (-3), .int .i64 4] w' fun e w2 => e = .returned (.tuple #[.int .i64 (-12), .int .i64 0]) ∧ w2 = w') := by
    intro w'
    have := times_all (-3) 4 w' (by omega) (by omega) (by omega) (by omega)
    rw [show (-3 : Int) * 4 = -12 by decide] at this
    exact this
  have HP : Hid (∀ (w' : World), Gr w w' → Calls Tryd.prog 26 #[.string ⟨#[45, 48, 46, 48, 53]⟩] w' fun e w2 => e = .returned (.tuple #[.int .i64 (-5), .int .i64 0]) ∧ Gr w' w2) := by
    intro w' g
    have := parse_any ⟨#[45, 48, 46, 48, 53]⟩ w' (by decide) (he.gr g)
    have e0 : (⟨#[45, 48, 46, 48, 53]⟩ : ByteArray).data.toList = Csh.showE (-5) := show_5.symm
    rw [e0, Csh.par_show (-5) (by omega) (by omega), Csh.read_show (-5) (by omega) (by omega)] at this
    exact this
  have HS : Hid (∀ (w' : World), Gr w w' → Calls Tryd.prog 28 #[.int .i64 1234] w' fun e w2 => e = .returned (.string ⟨#[49, 50, 46, 51, 52]⟩) ∧ Gr w' w2) := by
    intro w' g
    have := show_any 1234 w' (by omega) (by omega) (he.gr g)
    rw [show_1234] at this
    exact this
  have HF : Hid (∀ (w' : World), Calls Tryd.prog 24 #[.int .i64 0] w' fun e w2 => e = .returned (.bool true) ∧ w2 = w') := fun w' => fits_any 0 w'
  have HG : Hid (∀ (w' : World), Calls Tryd.prog 24 #[.int .i64 (-1)] w' fun e w2 => e = .returned (.bool false) ∧ w2 = w') := fun w' => fits_any (-1) w'
  clear he
  go_enter Tryd.func19, Tryd.ntmps19
  go_wp2_with fail
  refine (HA.out _ _ (ints_lit3 _ _ _ _ _ _ rfl)).mono ?_
  rintro e1 w1 ⟨rfl, hw1⟩
  have G1 : Hid (Gr w w1) := by rw [hw1]; exact (by repeat (first | exact Gr.refl _ | refine Gr.alloc ?_ | refine Gr.drew ?_ | refine Gr.trans ?_ (by assumption)))
  clear hw1 HA
  go_wp2_with fail
  refine (HB.out _ _ (ints_lit2 _ _ _ _ _ rfl)).mono ?_
  rintro e2 w2 ⟨rfl, hw2⟩
  have G2 : Hid (Gr w w2) := by rw [hw2]; exact G1.out.alloc
  clear hw2 HB G1
  go_wp2_with fail
  refine (HT.out _).mono ?_
  rintro e3 w3 ⟨rfl, hw3⟩; obtain rfl := hw3.symm
  go_wp2_with fail
  refine (HP.out _ G2.out).mono ?_
  rintro e4 w4 ⟨rfl, hg4⟩
  have G4 : Hid (Gr w w4) := G2.out.trans hg4
  clear hg4 G2 HP
  go_wp2_with fail
  refine (HS.out _ G4.out).mono ?_
  rintro e5 w5 ⟨rfl, hg5⟩
  have G5 : Hid (Gr w w5) := G4.out.trans hg5
  clear hg5 G4 HS
  go_wp2_with fail
  refine (HF.out _).mono ?_
  rintro e6 w6 ⟨rfl, hw6⟩; obtain rfl := hw6.symm
  go_wp2_with fail
  refine (HG.out _).mono ?_
  rintro e7 w7 ⟨rfl, hw7⟩; obtain rfl := hw7.symm
  go_wp2
  go_ret
  exact ⟨rfl, G5.out⟩
end Go.Proofs.YtmidlcipbpchgabDoor
