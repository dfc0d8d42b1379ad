/- pot: Check, Free, Room; and the document's. -/
import Derived.Test.YtiakajheoajepaaCashP
import Derived.Test.YtiakajheoajepaaPotM
namespace Go.Proofs.Ytiakajheoajepaa
open Go.RowKit

set_option maxHeartbeats 1000000 in
theorem mayBe_any (h i o : Int) (w : World) (ho : o ≤ 9223372036854775807) (hh : h ≤ 9223372036854775807) :
    Calls Try.prog 106 #[.agg #[.int .i64 h, .int .i64 i, .int .i64 o]] w fun e w' => e = .returned (.bool (Pot.mayB h i o)) ∧ Gr w w' := by
  go_enter Try.func106, Try.ntmps106
  go_wp2
  all_goals go_ret
  all_goals
    refine ⟨congrArg (fun b => Ending.returned (Value.bool b)) ?_, (by repeat (first | exact Gr.refl _ | refine Gr.alloc ?_ | refine Gr.drew ?_ | refine Gr.trans ?_ (by assumption)))⟩
    rw [Bool.eq_iff_iff, Pot.may_iff]
    simp
    omega

set_option maxHeartbeats 1000000 in
theorem check_any (h i o : Int) (w : World) (ho : o ≤ 9223372036854775807) (hh : h ≤ 9223372036854775807) :
    Calls Try.prog 93 #[.agg #[.int .i64 h, .int .i64 i, .int .i64 o]] w fun e w' => e = .returned (.int .i64 (Pot.chkE h i o)) ∧ Gr w w' := by
  have HM : Hid (∀ w', Calls Try.prog 106 #[.agg #[.int .i64 h, .int .i64 i, .int .i64 o]] w' fun e w2 => e = .returned (.bool (Pot.mayB h i o)) ∧ Gr w' w2) := fun w' => mayBe_any h i o w' ho hh
  unfold Pot.chkE
  generalize Pot.mayB h i o = b at *
  cases b
  all_goals
    go_enter Try.func93, Try.ntmps93
    go_wp2_with fail
    refine (HM.out _).mono ?_
    rintro e w1 ⟨rfl, hg1⟩
    go_wp2
    go_ret
    exact ⟨rfl, (by repeat (first | exact Gr.refl _ | refine Gr.alloc ?_ | refine Gr.drew ?_ | refine Gr.trans ?_ (by assumption)))⟩

set_option maxHeartbeats 1000000 in
theorem free_any (h i o : Int) (w : World) (ho : o ≤ 9223372036854775807) (hh : h ≤ 9223372036854775807) :
    Calls Try.prog 108 #[.agg #[.int .i64 h, .int .i64 i, .int .i64 o]] w fun e w' => e = .returned (.int .i64 (Pot.freeE h i o)) ∧ Gr w w' := by
  have HM : Hid (∀ w', Calls Try.prog 106 #[.agg #[.int .i64 h, .int .i64 i, .int .i64 o]] w' fun e w2 => e = .returned (.bool (Pot.mayB h i o)) ∧ Gr w' w2) := fun w' => mayBe_any h i o w' ho hh
  unfold Pot.freeE
  have hm := Pot.may_iff h i o
  generalize Pot.mayB h i o = b at *
  cases b
  · clear hm
    go_enter Try.func108, Try.ntmps108
    go_wp2_with fail
    refine (HM.out _).mono ?_
    rintro e w1 ⟨rfl, hg1⟩
    go_wp2
    go_ret
    exact ⟨rfl, (by repeat (first | exact Gr.refl _ | refine Gr.alloc ?_ | refine Gr.drew ?_ | refine Gr.trans ?_ (by assumption)))⟩
  · obtain ⟨h1, h2, h3, h4⟩ := hm.1 rfl
    clear hm
    go_enter Try.func108, Try.ntmps108
    go_wp2_with fail
    refine (HM.out _).mono ?_
    rintro e w1 ⟨rfl, hg1⟩
    obtain ⟨hc1, hf1⟩ := hg1.cells
    go_wp2
    go_ret
    exact ⟨rfl, (by repeat (first | exact Gr.refl _ | refine Gr.alloc ?_ | refine Gr.drew ?_ | refine Gr.trans ?_ (by assumption)))⟩

set_option maxHeartbeats 1000000 in
theorem room_any (h i o : Int) (w : World) (ho : o ≤ 9223372036854775807) (hh : h ≤ 9223372036854775807) :
    Calls Try.prog 109 #[.agg #[.int .i64 h, .int .i64 i, .int .i64 o]] w fun e w' => e = .returned (.int .i64 (Pot.roomE h i o)) ∧ Gr w w' := by
  have HM : Hid (∀ w', Calls Try.prog 106 #[.agg #[.int .i64 h, .int .i64 i, .int .i64 o]] w' fun e w2 => e = .returned (.bool (Pot.mayB h i o)) ∧ Gr w' w2) := fun w' => mayBe_any h i o w' ho hh
  unfold Pot.roomE
  have hm := Pot.may_iff h i o
  generalize Pot.mayB h i o = b at *
  cases b
  · clear hm
    go_enter Try.func109, Try.ntmps109
    go_wp2_with fail
    refine (HM.out _).mono ?_
    rintro e w1 ⟨rfl, hg1⟩
    go_wp2
    go_ret
    exact ⟨rfl, (by repeat (first | exact Gr.refl _ | refine Gr.alloc ?_ | refine Gr.drew ?_ | refine Gr.trans ?_ (by assumption)))⟩
  · obtain ⟨h1, h2, h3, h4⟩ := hm.1 rfl
    clear hm
    go_enter Try.func109, Try.ntmps109
    go_wp2_with fail
    refine (HM.out _).mono ?_
    rintro e w1 ⟨rfl, hg1⟩
    obtain ⟨hc1, hf1⟩ := hg1.cells
    go_wp2
    go_ret
    exact ⟨rfl, (by repeat (first | exact Gr.refl _ | refine Gr.alloc ?_ | refine Gr.drew ?_ | refine Gr.trans ?_ (by assumption)))⟩

set_option maxHeartbeats 1000000 in
theorem refCheck_any (h i o : Int) (w : World) :
    Calls Try.prog 73 #[.agg #[.int .i64 h, .int .i64 i, .int .i64 o]] w fun e w' => e = .returned (.int .i64 (Pot.chkE h i o)) ∧ Gr w w' := by
  cases hb : Pot.mayB h i o with
  | false =>
    have hn := Pot.may_no h i o hb
    have HE : Hid (Pot.chkE h i o = 2) := by show _ = _; unfold Pot.chkE; rw [hb]; rfl
    clear hb
    by_cases h1 : i < 0
    · go_enter Try.func73, Try.ntmps73
      go_wp2
      go_ret
      exact ⟨by rw [HE.out]; rfl, (by repeat (first | exact Gr.refl _ | refine Gr.alloc ?_ | refine Gr.drew ?_ | refine Gr.trans ?_ (by assumption)))⟩
    by_cases h2 : h < i
    · go_enter Try.func73, Try.ntmps73
      go_wp2
      go_ret
      exact ⟨by rw [HE.out]; rfl, (by repeat (first | exact Gr.refl _ | refine Gr.alloc ?_ | refine Gr.drew ?_ | refine Gr.trans ?_ (by assumption)))⟩
    by_cases h3 : o < 0
    · go_enter Try.func73, Try.ntmps73
      go_wp2
      go_ret
      exact ⟨by rw [HE.out]; rfl, (by repeat (first | exact Gr.refl _ | refine Gr.alloc ?_ | refine Gr.drew ?_ | refine Gr.trans ?_ (by assumption)))⟩
    by_cases h4 : 1000000000000000 < h
    · go_enter Try.func73, Try.ntmps73
      go_wp2
      go_ret
      exact ⟨by rw [HE.out]; rfl, (by repeat (first | exact Gr.refl _ | refine Gr.alloc ?_ | refine Gr.drew ?_ | refine Gr.trans ?_ (by assumption)))⟩
    by_cases h5 : 1000000000000000 < o
    · go_enter Try.func73, Try.ntmps73
      go_wp2
      go_ret
      exact ⟨by rw [HE.out]; rfl, (by repeat (first | exact Gr.refl _ | refine Gr.alloc ?_ | refine Gr.drew ?_ | refine Gr.trans ?_ (by assumption)))⟩
    have h6 : 1000000000000000 < h + o := by omega
    clear hn
    go_enter Try.func73, Try.ntmps73
    go_wp2
    go_ret
    exact ⟨by rw [HE.out]; rfl, (by repeat (first | exact Gr.refl _ | refine Gr.alloc ?_ | refine Gr.drew ?_ | refine Gr.trans ?_ (by assumption)))⟩
  | true =>
    obtain ⟨h1, h2, h3, h4⟩ := (Pot.may_iff h i o).1 hb
    have HE : Hid (Pot.chkE h i o = 0) := by show _ = _; unfold Pot.chkE; rw [hb]; rfl
    clear hb
    have k1 : ¬ h < i := by omega
    have k2 : ¬ 1000000000000000 < h := by omega
    have k3 : ¬ 1000000000000000 < o := by omega
    have k4 : ¬ 1000000000000000 < h + o := by omega
    go_enter Try.func73, Try.ntmps73
    go_wp2
    go_ret
    exact ⟨by rw [HE.out]; rfl, (by repeat (first | exact Gr.refl _ | refine Gr.alloc ?_ | refine Gr.drew ?_ | refine Gr.trans ?_ (by assumption)))⟩

set_option maxHeartbeats 1000000 in
theorem refFree_any (h i o : Int) (w : World) :
    Calls Try.prog 112 #[.agg #[.int .i64 h, .int .i64 i, .int .i64 o]] w fun e w' => e = .returned (.int .i64 (Pot.freeE h i o)) ∧ Gr w w' := by
  have HM : Hid (∀ w', Calls Try.prog 73 #[.agg #[.int .i64 h, .int .i64 i, .int .i64 o]] w' fun e w2 => e = .returned (.int .i64 (Pot.chkE h i o)) ∧ Gr w' w2) := fun w' => refCheck_any h i o w'
  unfold Pot.freeE
  unfold Pot.chkE at HM
  have hm := Pot.may_iff h i o
  generalize Pot.mayB h i o = b at *
  cases b
  · clear hm
    go_enter Try.func112, Try.ntmps112
    go_wp2_with fail
    refine (HM.out _).mono ?_
    rintro e w1 ⟨rfl, hg1⟩
    go_wp2
    go_ret
    exact ⟨rfl, (by repeat (first | exact Gr.refl _ | refine Gr.alloc ?_ | refine Gr.drew ?_ | refine Gr.trans ?_ (by assumption)))⟩
  · obtain ⟨h1, h2, h3, h4⟩ := hm.1 rfl
    clear hm
    go_enter Try.func112, Try.ntmps112
    go_wp2_with fail
    refine (HM.out _).mono ?_
    rintro e w1 ⟨rfl, hg1⟩
    obtain ⟨hc1, hf1⟩ := hg1.cells
    go_wp2
    go_ret
    exact ⟨rfl, (by repeat (first | exact Gr.refl _ | refine Gr.alloc ?_ | refine Gr.drew ?_ | refine Gr.trans ?_ (by assumption)))⟩

set_option maxHeartbeats 1000000 in
theorem refRoom_any (h i o : Int) (w : World) :
    Calls Try.prog 113 #[.agg #[.int .i64 h, .int .i64 i, .int .i64 o]] w fun e w' => e = .returned (.int .i64 (Pot.roomE h i o)) ∧ Gr w w' := by
  have HM : Hid (∀ w', Calls Try.prog 73 #[.agg #[.int .i64 h, .int .i64 i, .int .i64 o]] w' fun e w2 => e = .returned (.int .i64 (Pot.chkE h i o)) ∧ Gr w' w2) := fun w' => refCheck_any h i o w'
  unfold Pot.roomE
  unfold Pot.chkE at HM
  have hm := Pot.may_iff h i o
  generalize Pot.mayB h i o = b at *
  cases b
  · clear hm
    go_enter Try.func113, Try.ntmps113
    go_wp2_with fail
    refine (HM.out _).mono ?_
    rintro e w1 ⟨rfl, hg1⟩
    go_wp2
    go_ret
    exact ⟨rfl, (by repeat (first | exact Gr.refl _ | refine Gr.alloc ?_ | refine Gr.drew ?_ | refine Gr.trans ?_ (by assumption)))⟩
  · obtain ⟨h1, h2, h3, h4⟩ := hm.1 rfl
    clear hm
    go_enter Try.func113, Try.ntmps113
    go_wp2_with fail
    refine (HM.out _).mono ?_
    rintro e w1 ⟨rfl, hg1⟩
    obtain ⟨hc1, hf1⟩ := hg1.cells
    go_wp2
    go_ret
    exact ⟨rfl, (by repeat (first | exact Gr.refl _ | refine Gr.alloc ?_ | refine Gr.drew ?_ | refine Gr.trans ?_ (by assumption)))⟩
end Go.Proofs.Ytiakajheoajepaa
