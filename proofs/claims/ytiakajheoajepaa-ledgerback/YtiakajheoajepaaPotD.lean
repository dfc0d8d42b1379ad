/- pot: Do, Undo, Keep. -/
import Derived.Test.YtiakajheoajepaaPotQ
import Derived.Deep.RegionHeld3
namespace Go.Proofs.Ytiakajheoajepaa
open Go.RowKit

set_option maxHeartbeats 2000000 in
theorem undo_any (h i o a : Int) (out : Bool) (w : World) (ho : o ≤ 9223372036854775807) (hh : h ≤ 9223372036854775807) :
    Calls Try.prog 87 #[.agg #[.int .i64 h, .int .i64 i, .int .i64 o], .bool out, .int .i64 a] w fun e w' =>
      e = .returned (.tuple #[.agg #[.int .i64 (Pot.pick (Pot.eUn out h i o a) (h + Pot.sg out 1 (-1) * a)), .int .i64 (Pot.pick (Pot.eUn out h i o a) (i + Pot.sg out 0 (-1) * a)), .int .i64 (Pot.pick (Pot.eUn out h i o a) (o + Pot.sg out (-1) 0 * a))], .int .i64 (Pot.eUn out h i o a)]) ∧ Gr w w' := by
  have HI : Hid (∀ w', Calls Try.prog 103 #[.bool out, .int .i64 o, .int .i64 i] w' fun e w2 => e = .returned (.int .i64 (Pot.mostUn out i o)) ∧ Gr w' w2) := fun w' => chooseI_any out o i w'
  have HP : Hid (∀ w', Calls Try.prog 104 #[.bool out, .agg #[.int .i64 1, .int .i64 0, .int .i64 (-1)], .agg #[.int .i64 (-1), .int .i64 (-1), .int .i64 0]] w' fun e w2 => e = .returned (.agg #[.int .i64 (Pot.sg out 1 (-1)), .int .i64 (Pot.sg out 0 (-1)), .int .i64 (Pot.sg out (-1) 0)]) ∧ Gr w' w2) := fun w' => chooseP_any out 1 0 (-1) (-1) (-1) 0 w'
  have HV : Hid (∀ w', Calls Try.prog 102 #[.agg #[.int .i64 h, .int .i64 i, .int .i64 o], .int .i64 a, .int .i64 (Pot.mostUn out i o), .agg #[.int .i64 (Pot.sg out 1 (-1)), .int .i64 (Pot.sg out 0 (-1)), .int .i64 (Pot.sg out (-1) 0)]] w' fun e w2 => e = .returned (.tuple #[.agg #[.int .i64 (Pot.pick (Pot.eUn out h i o a) (h + Pot.sg out 1 (-1) * a)), .int .i64 (Pot.pick (Pot.eUn out h i o a) (i + Pot.sg out 0 (-1) * a)), .int .i64 (Pot.pick (Pot.eUn out h i o a) (o + Pot.sg out (-1) 0 * a))], .int .i64 (Pot.eUn out h i o a)]) ∧ Gr w' w2) := 
    fun w' => move_any h i o a (Pot.mostUn out i o) _ _ _ w' ho hh (by cases out <;> simp [Pot.sg, Pot.unit]) (by cases out <;> simp [Pot.sg, Pot.unit]) (by cases out <;> simp [Pot.sg, Pot.unit])
  generalize Pot.mostUn out i o = m at *
  generalize Pot.pick (Pot.eUn out h i o a) (h + Pot.sg out 1 (-1) * a) = x at *
  generalize Pot.pick (Pot.eUn out h i o a) (i + Pot.sg out 0 (-1) * a) = y at *
  generalize Pot.pick (Pot.eUn out h i o a) (o + Pot.sg out (-1) 0 * a) = z at *
  generalize Pot.eUn out h i o a = er at *
  generalize Pot.sg out 1 (-1) = s1 at *
  generalize Pot.sg out 0 (-1) = s2 at *
  generalize Pot.sg out (-1) 0 = s3 at *
  clear ho hh
  go_enter Try.func87, Try.ntmps87
  go_wp2_with fail
  go_region_held3 (fun w' => Gr w w' ∧ w'.cell? ⟨w.heap.size, 0, none⟩ = some (.int .i64 h) ∧ w'.cell? ⟨w.heap.size, 1, none⟩ = some (.int .i64 i) ∧ w'.cell? ⟨w.heap.size, 2, none⟩ = some (.int .i64 o) ∧ RoomAt w' (w.heap.size + 1))
    ((go_split_ands; first | exact ⟨Gr.trans (by assumption) hgn, hgn.keep (by assumption), hgn.keep (by assumption), hgn.keep (by assumption), RoomAt.gr (by assumption) hgn⟩ | exact ⟨(by repeat (first | exact Gr.refl _ | refine Gr.alloc ?_ | refine Gr.drew ?_ | refine Gr.trans ?_ (by assumption))), (by simp), (by simp), (by simp), (RoomAt.new _ _ _ _ _ _ (by simp)).drew⟩ | exact ⟨(by (repeat' (first | with_reducible exact Gr.refl _ | with_reducible refine Gr.set ?_ _ ?_ _ | with_reducible refine Gr.alloc ?_ | with_reducible refine Gr.drew ?_ | with_reducible refine Gr.trans ?_ (by assumption))) <;> (first | (simp; done) | (simp; omega) | omega)), (by simp [go_sem, *]), (by simp [go_sem, *]), (by simp [go_sem, *]), (RoomAt.gr (by assumption) hgn).set3 _ _ _⟩))
    ((first
      | (go_at_call 103; refine (HI.out _).mono ?_; rintro e wn ⟨rfl, hgn⟩)
      | (go_at_call 104; refine (HP.out _).mono ?_; rintro e wn ⟨rfl, hgn⟩)
      | (go_at_call 102; refine (HV.out _).mono ?_; rintro e wn ⟨rfl, hgn⟩; go_split_ands; obtain ⟨_, _, _, b0, b1, b2, b3, b4, b5, b6⟩ := (RoomAt.gr (by assumption) hgn : RoomAt _ (w.heap.size + 1)); have c0 := hgn.keep (by assumption : Eq (World.cell? _ ⟨w.heap.size, 0, none⟩) (some (.int .i64 h))); have c1 := hgn.keep (by assumption : Eq (World.cell? _ ⟨w.heap.size, 1, none⟩) (some (.int .i64 i))); have c2 := hgn.keep (by assumption : Eq (World.cell? _ ⟨w.heap.size, 2, none⟩) (some (.int .i64 o))))))
  all_goals go_wp2
  all_goals
    exact bodyPost_ret (v := .tuple #[.agg #[.int .i64 x, .int .i64 y, .int .i64 z], .int .i64 er]) (by simp [results, Try.results87, go_sem, b0, b1, b2]) rfl ⟨rfl, (by (repeat' (first | with_reducible exact Gr.refl _ | with_reducible refine Gr.set ?_ _ ?_ _ | with_reducible refine Gr.alloc ?_ | with_reducible refine Gr.drew ?_ | with_reducible refine Gr.trans ?_ (by assumption))) <;> (first | (simp; done) | (simp; omega) | omega))⟩
set_option maxHeartbeats 2000000 in
theorem keep_any (h i o a : Int) (out : Bool) (w : World) (ho : o ≤ 9223372036854775807) (hh : h ≤ 9223372036854775807) :
    Calls Try.prog 88 #[.agg #[.int .i64 h, .int .i64 i, .int .i64 o], .bool out, .int .i64 a] w fun e w' =>
      e = .returned (.tuple #[.agg #[.int .i64 (Pot.pick (Pot.eUn out h i o a) (h + Pot.sg out 0 0 * a)), .int .i64 (Pot.pick (Pot.eUn out h i o a) (i + Pot.sg out 0 (-1) * a)), .int .i64 (Pot.pick (Pot.eUn out h i o a) (o + Pot.sg out (-1) 0 * a))], .int .i64 (Pot.eUn out h i o a)]) ∧ Gr w w' := by
  have HI : Hid (∀ w', Calls Try.prog 103 #[.bool out, .int .i64 o, .int .i64 i] w' fun e w2 => e = .returned (.int .i64 (Pot.mostUn out i o)) ∧ Gr w' w2) := fun w' => chooseI_any out o i w'
  have HP : Hid (∀ w', Calls Try.prog 104 #[.bool out, .agg #[.int .i64 0, .int .i64 0, .int .i64 (-1)], .agg #[.int .i64 0, .int .i64 (-1), .int .i64 0]] w' fun e w2 => e = .returned (.agg #[.int .i64 (Pot.sg out 0 0), .int .i64 (Pot.sg out 0 (-1)), .int .i64 (Pot.sg out (-1) 0)]) ∧ Gr w' w2) := fun w' => chooseP_any out 0 0 (-1) 0 (-1) 0 w'
  have HV : Hid (∀ w', Calls Try.prog 102 #[.agg #[.int .i64 h, .int .i64 i, .int .i64 o], .int .i64 a, .int .i64 (Pot.mostUn out i o), .agg #[.int .i64 (Pot.sg out 0 0), .int .i64 (Pot.sg out 0 (-1)), .int .i64 (Pot.sg out (-1) 0)]] w' fun e w2 => e = .returned (.tuple #[.agg #[.int .i64 (Pot.pick (Pot.eUn out h i o a) (h + Pot.sg out 0 0 * a)), .int .i64 (Pot.pick (Pot.eUn out h i o a) (i + Pot.sg out 0 (-1) * a)), .int .i64 (Pot.pick (Pot.eUn out h i o a) (o + Pot.sg out (-1) 0 * a))], .int .i64 (Pot.eUn out h i o a)]) ∧ Gr w' w2) := 
    fun w' => move_any h i o a (Pot.mostUn out i o) _ _ _ w' ho hh (by cases out <;> simp [Pot.sg, Pot.unit]) (by cases out <;> simp [Pot.sg, Pot.unit]) (by cases out <;> simp [Pot.sg, Pot.unit])
  generalize Pot.mostUn out i o = m at *
  generalize Pot.pick (Pot.eUn out h i o a) (h + Pot.sg out 0 0 * a) = x at *
  generalize Pot.pick (Pot.eUn out h i o a) (i + Pot.sg out 0 (-1) * a) = y at *
  generalize Pot.pick (Pot.eUn out h i o a) (o + Pot.sg out (-1) 0 * a) = z at *
  generalize Pot.eUn out h i o a = er at *
  generalize Pot.sg out 0 0 = s1 at *
  generalize Pot.sg out 0 (-1) = s2 at *
  generalize Pot.sg out (-1) 0 = s3 at *
  clear ho hh
  go_enter Try.func88, Try.ntmps88
  go_wp2_with fail
  go_region_held3 (fun w' => Gr w w' ∧ w'.cell? ⟨w.heap.size, 0, none⟩ = some (.int .i64 h) ∧ w'.cell? ⟨w.heap.size, 1, none⟩ = some (.int .i64 i) ∧ w'.cell? ⟨w.heap.size, 2, none⟩ = some (.int .i64 o) ∧ RoomAt w' (w.heap.size + 1))
    ((go_split_ands; first | exact ⟨Gr.trans (by assumption) hgn, hgn.keep (by assumption), hgn.keep (by assumption), hgn.keep (by assumption), RoomAt.gr (by assumption) hgn⟩ | exact ⟨(by repeat (first | exact Gr.refl _ | refine Gr.alloc ?_ | refine Gr.drew ?_ | refine Gr.trans ?_ (by assumption))), (by simp), (by simp), (by simp), (RoomAt.new _ _ _ _ _ _ (by simp)).drew⟩ | exact ⟨(by (repeat' (first | with_reducible exact Gr.refl _ | with_reducible refine Gr.set ?_ _ ?_ _ | with_reducible refine Gr.alloc ?_ | with_reducible refine Gr.drew ?_ | with_reducible refine Gr.trans ?_ (by assumption))) <;> (first | (simp; done) | (simp; omega) | omega)), (by simp [go_sem, *]), (by simp [go_sem, *]), (by simp [go_sem, *]), (RoomAt.gr (by assumption) hgn).set3 _ _ _⟩))
    ((first
      | (go_at_call 103; refine (HI.out _).mono ?_; rintro e wn ⟨rfl, hgn⟩)
      | (go_at_call 104; refine (HP.out _).mono ?_; rintro e wn ⟨rfl, hgn⟩)
      | (go_at_call 102; refine (HV.out _).mono ?_; rintro e wn ⟨rfl, hgn⟩; go_split_ands; obtain ⟨_, _, _, b0, b1, b2, b3, b4, b5, b6⟩ := (RoomAt.gr (by assumption) hgn : RoomAt _ (w.heap.size + 1)); have c0 := hgn.keep (by assumption : Eq (World.cell? _ ⟨w.heap.size, 0, none⟩) (some (.int .i64 h))); have c1 := hgn.keep (by assumption : Eq (World.cell? _ ⟨w.heap.size, 1, none⟩) (some (.int .i64 i))); have c2 := hgn.keep (by assumption : Eq (World.cell? _ ⟨w.heap.size, 2, none⟩) (some (.int .i64 o))))))
  all_goals go_wp2
  all_goals
    exact bodyPost_ret (v := .tuple #[.agg #[.int .i64 x, .int .i64 y, .int .i64 z], .int .i64 er]) (by simp [results, Try.results88, go_sem, b0, b1, b2]) rfl ⟨rfl, (by (repeat' (first | with_reducible exact Gr.refl _ | with_reducible refine Gr.set ?_ _ ?_ _ | with_reducible refine Gr.alloc ?_ | with_reducible refine Gr.drew ?_ | with_reducible refine Gr.trans ?_ (by assumption))) <;> (first | (simp; done) | (simp; omega) | omega))⟩
set_option maxHeartbeats 2000000 in
theorem do_any (h i o a : Int) (out : Bool) (w : World) (ho : o ≤ 9223372036854775807) (hh : h ≤ 9223372036854775807) :
    Calls Try.prog 95 #[.agg #[.int .i64 h, .int .i64 i, .int .i64 o], .bool out, .int .i64 a] w fun e w' =>
      e = .returned (.tuple #[.agg #[.int .i64 (Pot.pick (Pot.eDo out h i o a) (h + Pot.sg out (-1) 1 * a)), .int .i64 (Pot.pick (Pot.eDo out h i o a) (i + Pot.sg out 0 1 * a)), .int .i64 (Pot.pick (Pot.eDo out h i o a) (o + Pot.sg out 1 0 * a))], .int .i64 (Pot.eDo out h i o a)]) ∧ Gr w w' := by
  have HI : Hid (∀ w', Calls Try.prog 103 #[.bool out, .int .i64 (Pot.freeE h i o), .int .i64 (Pot.roomE h i o)] w' fun e w2 => e = .returned (.int .i64 (Pot.mostDo out h i o)) ∧ Gr w' w2) := fun w' => chooseI_any out (Pot.freeE h i o) (Pot.roomE h i o) w'
  have HE : Hid (∀ w', Calls Try.prog 108 #[.agg #[.int .i64 h, .int .i64 i, .int .i64 o]] w' fun e w2 => e = .returned (.int .i64 (Pot.freeE h i o)) ∧ Gr w' w2) := fun w' => free_any h i o w' ho hh
  have HR : Hid (∀ w', Calls Try.prog 109 #[.agg #[.int .i64 h, .int .i64 i, .int .i64 o]] w' fun e w2 => e = .returned (.int .i64 (Pot.roomE h i o)) ∧ Gr w' w2) := fun w' => room_any h i o w' ho hh
  have HP : Hid (∀ w', Calls Try.prog 104 #[.bool out, .agg #[.int .i64 (-1), .int .i64 0, .int .i64 1], .agg #[.int .i64 1, .int .i64 1, .int .i64 0]] w' fun e w2 => e = .returned (.agg #[.int .i64 (Pot.sg out (-1) 1), .int .i64 (Pot.sg out 0 1), .int .i64 (Pot.sg out 1 0)]) ∧ Gr w' w2) := fun w' => chooseP_any out (-1) 0 1 1 1 0 w'
  have HV : Hid (∀ w', Calls Try.prog 102 #[.agg #[.int .i64 h, .int .i64 i, .int .i64 o], .int .i64 a, .int .i64 (Pot.mostDo out h i o), .agg #[.int .i64 (Pot.sg out (-1) 1), .int .i64 (Pot.sg out 0 1), .int .i64 (Pot.sg out 1 0)]] w' fun e w2 => e = .returned (.tuple #[.agg #[.int .i64 (Pot.pick (Pot.eDo out h i o a) (h + Pot.sg out (-1) 1 * a)), .int .i64 (Pot.pick (Pot.eDo out h i o a) (i + Pot.sg out 0 1 * a)), .int .i64 (Pot.pick (Pot.eDo out h i o a) (o + Pot.sg out 1 0 * a))], .int .i64 (Pot.eDo out h i o a)]) ∧ Gr w' w2) := 
    fun w' => move_any h i o a (Pot.mostDo out h i o) _ _ _ w' ho hh (by cases out <;> simp [Pot.sg, Pot.unit]) (by cases out <;> simp [Pot.sg, Pot.unit]) (by cases out <;> simp [Pot.sg, Pot.unit])
  generalize Pot.mostDo out h i o = m at *
  generalize Pot.pick (Pot.eDo out h i o a) (h + Pot.sg out (-1) 1 * a) = x at *
  generalize Pot.pick (Pot.eDo out h i o a) (i + Pot.sg out 0 1 * a) = y at *
  generalize Pot.pick (Pot.eDo out h i o a) (o + Pot.sg out 1 0 * a) = z at *
  generalize Pot.eDo out h i o a = er at *
  generalize Pot.sg out (-1) 1 = s1 at *
  generalize Pot.sg out 0 1 = s2 at *
  generalize Pot.sg out 1 0 = s3 at *
  generalize Pot.freeE h i o = fr at *
  generalize Pot.roomE h i o = ro at *
  clear ho hh
  go_enter Try.func95, Try.ntmps95
  go_wp2_with fail
  go_region_held3 (fun w' => Gr w w' ∧ w'.cell? ⟨w.heap.size, 0, none⟩ = some (.int .i64 h) ∧ w'.cell? ⟨w.heap.size, 1, none⟩ = some (.int .i64 i) ∧ w'.cell? ⟨w.heap.size, 2, none⟩ = some (.int .i64 o) ∧ RoomAt w' (w.heap.size + 1))
    ((go_split_ands; first | exact ⟨Gr.trans (by assumption) hgn, hgn.keep (by assumption), hgn.keep (by assumption), hgn.keep (by assumption), RoomAt.gr (by assumption) hgn⟩ | exact ⟨(by repeat (first | exact Gr.refl _ | refine Gr.alloc ?_ | refine Gr.drew ?_ | refine Gr.trans ?_ (by assumption))), (by simp), (by simp), (by simp), (RoomAt.new _ _ _ _ _ _ (by simp)).drew⟩ | exact ⟨(by (repeat' (first | with_reducible exact Gr.refl _ | with_reducible refine Gr.set ?_ _ ?_ _ | with_reducible refine Gr.alloc ?_ | with_reducible refine Gr.drew ?_ | with_reducible refine Gr.trans ?_ (by assumption))) <;> (first | (simp; done) | (simp; omega) | omega)), (by simp [go_sem, *]), (by simp [go_sem, *]), (by simp [go_sem, *]), (RoomAt.gr (by assumption) hgn).set3 _ _ _⟩))
    ((first
      | (go_at_call 103; refine (HI.out _).mono ?_; rintro e wn ⟨rfl, hgn⟩)
      | (go_at_call 108; refine (HE.out _).mono ?_; rintro e wn ⟨rfl, hgn⟩)
      | (go_at_call 109; refine (HR.out _).mono ?_; rintro e wn ⟨rfl, hgn⟩)
      | (go_at_call 104; refine (HP.out _).mono ?_; rintro e wn ⟨rfl, hgn⟩)
      | (go_at_call 102; refine (HV.out _).mono ?_; rintro e wn ⟨rfl, hgn⟩; go_split_ands; obtain ⟨_, _, _, b0, b1, b2, b3, b4, b5, b6⟩ := (RoomAt.gr (by assumption) hgn : RoomAt _ (w.heap.size + 1)); have c0 := hgn.keep (by assumption : Eq (World.cell? _ ⟨w.heap.size, 0, none⟩) (some (.int .i64 h))); have c1 := hgn.keep (by assumption : Eq (World.cell? _ ⟨w.heap.size, 1, none⟩) (some (.int .i64 i))); have c2 := hgn.keep (by assumption : Eq (World.cell? _ ⟨w.heap.size, 2, none⟩) (some (.int .i64 o))))))
  all_goals go_wp2
  all_goals
    exact bodyPost_ret (v := .tuple #[.agg #[.int .i64 x, .int .i64 y, .int .i64 z], .int .i64 er]) (by simp [results, Try.results95, go_sem, b0, b1, b2]) rfl ⟨rfl, (by (repeat' (first | with_reducible exact Gr.refl _ | with_reducible refine Gr.set ?_ _ ?_ _ | with_reducible refine Gr.alloc ?_ | with_reducible refine Gr.drew ?_ | with_reducible refine Gr.trans ?_ (by assumption))) <;> (first | (simp; done) | (simp; omega) | omega))⟩
end Go.Proofs.Ytiakajheoajepaa
