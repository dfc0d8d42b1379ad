
/- segment: Look. -/
import Derived.Test.YtoeibjflaiiljaaDoorSgL
import Derived.Test.YtoeibjflaiiljaaDoorSgP
import Derived.Test.YtoeibjflaiiljaaDoorCutP
import Derived.Test.YtoeibjflaiiljaaDoorRegL
namespace Go.Proofs.YtoeibjflaiiljaaDoor
open Go.RowKit
open Dk (Fl zf)

theorem slice_not (a : Option Addr) (n c : Nat) : ∀ s, Value.slice a n c ≠ .string s := by intro s h; cases h
set_option maxHeartbeats 2000000 in
set_option maxRecDepth 100000 in
theorem look_rise (L : List Fl) (ad : Option Addr) (cap : Nat) (w : World) (hL : FsAt w ad cap L) (hr : Sg.rise L = false) :
    Calls Tryd.prog 14 #[.slice ad L.length cap] w fun e w' => LkR (Sg.bad 2) w e w' := by
  have HR : Hid (∀ w', Gr w w' → Calls Tryd.prog 24 #[.slice ad L.length cap] w' fun e w2 => e = .returned (.bool false) ∧ Gr w' w2) := fun w' g => by
    have := rise_any L ad cap w' (hL.gr g)
    rw [hr] at this
    exact this
  clear hL
  go_enter Tryd.func14, Tryd.ntmps14
  go_wp2_with fail
  refine (HR.out _ (by repeat (first | exact Gr.refl _ | refine Gr.alloc ?_ | refine Gr.drew ?_ | refine Gr.trans ?_ (by assumption)))).mono ?_
  rintro e w1 ⟨rfl, hg1⟩
  have B1 := (Bx4.new w (.int .i64 0) (.int .i64 0) (.slice none 0 0) (.slice none 0 0) 37 _ rfl).gr hg1
  have G1 := Lib.hid ((Gr.refl w).alloc.trans hg1)
  clear hg1
  obtain ⟨c0, c1, c2, c3, f0, f1, f2, f3, hlt⟩ := B1
  go_wp2
  exact bodyPost_ret (v := .tuple #[.agg #[.int .i64 0, .int .i64 0, .slice none 0 0, .slice none 0 0], .int .i64 2]) (by simp [results, Tryd.results14, go_sem, c0, c1, c2, c3]) rfl
    ⟨none, 0, none, 0, rfl, fun j h => absurd h (by simp [Sg.bad]), fun j h => absurd h (by simp [Sg.bad]), gr_fill G1.out (Nat.le_refl _) _ _ _ _⟩
set_option maxHeartbeats 2000000 in
set_option maxRecDepth 100000 in
theorem look_bad (L : List Fl) (ad : Option Addr) (cap : Nat) (w : World) (hT : Tab w) (hL : FsAt w ad cap L) (hr : Sg.rise L = true) (hw : Sg.lw L L.length = (-1, 170)) :
    Calls Tryd.prog 14 #[.slice ad L.length cap] w fun e w' => LkR (Sg.bad 170) w e w' := by
  have HR : Hid (∀ w', Gr w w' → Calls Tryd.prog 24 #[.slice ad L.length cap] w' fun e w2 => e = .returned (.bool true) ∧ Gr w' w2) := fun w' g => by
    have := rise_any L ad cap w' (hL.gr g)
    rw [hr] at this
    exact this
  have HW : Hid (∀ w', Gr w w' → Calls Tryd.prog 25 #[.slice ad L.length cap, .func (.func 26) #[] #[]] w' fun e w2 => e = .returned (.tuple #[.int .i64 (-1), .int .i64 170]) ∧ Gr w' w2) := fun w' g => by
    have := lastWhole_any L ad cap w' (hT.gr g) (hL.gr g)
    rw [hw] at this
    exact this
  clear hL hT
  go_enter Tryd.func14, Tryd.ntmps14
  go_wp2_with fail
  refine (HR.out _ (by repeat (first | exact Gr.refl _ | refine Gr.alloc ?_ | refine Gr.drew ?_ | refine Gr.trans ?_ (by assumption)))).mono ?_
  rintro e w1 ⟨rfl, hg1⟩
  go_wp2_with fail
  refine (HW.out _ (by repeat (first | exact Gr.refl _ | refine Gr.alloc ?_ | refine Gr.drew ?_ | refine Gr.trans ?_ (by assumption)))).mono ?_
  rintro e w2 ⟨rfl, hg2⟩
  have B1 := ((Bx4.new w (.int .i64 0) (.int .i64 0) (.slice none 0 0) (.slice none 0 0) 37 _ rfl).gr hg1).gr hg2
  have G1 := Lib.hid (((Gr.refl w).alloc.trans hg1).trans hg2)
  clear hg1 hg2
  obtain ⟨c0, c1, c2, c3, f0, f1, f2, f3, hlt⟩ := B1
  go_wp2
  exact bodyPost_ret (v := .tuple #[.agg #[.int .i64 0, .int .i64 0, .slice none 0 0, .slice none 0 0], .int .i64 170]) (by simp [results, Tryd.results14, go_sem, c0, c1, c2, c3]) rfl
    ⟨none, 0, none, 0, rfl, fun j h => absurd h (by simp [Sg.bad]), fun j h => absurd h (by simp [Sg.bad]), gr_fill G1.out (Nat.le_refl _) _ _ _ _⟩
set_option maxHeartbeats 2000000 in
set_option maxRecDepth 100000 in
theorem look_none (L : List Fl) (ad : Option Addr) (cap : Nat) (w : World) (hT : Tab w) (hL : FsAt w ad cap L) (hr : Sg.rise L = true) (hw : Sg.lw L L.length = (-1, 0)) :
    Calls Tryd.prog 14 #[.slice ad L.length cap] w fun e w' => LkR ⟨-1, 0, [], Sg.nums L, 0⟩ w e w' := by
  have HR : Hid (∀ w', Gr w w' → Calls Tryd.prog 24 #[.slice ad L.length cap] w' fun e w2 => e = .returned (.bool true) ∧ Gr w' w2) := fun w' g => by
    have := rise_any L ad cap w' (hL.gr g)
    rw [hr] at this
    exact this
  have HW : Hid (∀ w', Gr w w' → Calls Tryd.prog 25 #[.slice ad L.length cap, .func (.func 26) #[] #[]] w' fun e w2 => e = .returned (.tuple #[.int .i64 (-1), .int .i64 0]) ∧ Gr w' w2) := fun w' g => by
    have := lastWhole_any L ad cap w' (hT.gr g) (hL.gr g)
    rw [hw] at this
    exact this
  have HN : Hid (∀ (w' : World) (B : Nat), Gr w w' → w'.cell? ⟨B, 0, none⟩ = some (.slice ad L.length cap) → Calls Tryd.prog 28 #[.slice (some ⟨B, 0, none⟩) 1 1] w' fun e w2 => ∃ ad2 cap2, e = .returned (.slice ad2 (Sg.nums L).length cap2) ∧ IntsAt w2 ad2 (Sg.nums L) ∧ (∀ p, ad2 = some p → w'.heap.size ≤ p.block) ∧ Gr w' w2) := fun w' B g hc => by
    have := numbers_any [(ad, cap, L)] (some ⟨B, 0, none⟩) 1 w' (by
      intro j u hu
      match j, hu with
      | 0, hu => exact ⟨B, 0, rfl, World.block_lt_of_cell? _ _ hc, by simp [fsV] at hu; subst hu; exact hc⟩) (by simp) (by
      intro x hx
      simp at hx
      subst hx
      exact ⟨hL.row.gr g, hL.len⟩)
    rw [show allN [(ad, cap, L)] = Sg.nums L by simp [allN]] at this
    exact this
  clear hL hT
  go_enter Tryd.func14, Tryd.ntmps14
  go_wp2_with fail
  refine (HR.out _ (by repeat (first | exact Gr.refl _ | refine Gr.alloc ?_ | refine Gr.drew ?_ | refine Gr.trans ?_ (by assumption)))).mono ?_
  rintro e w1 ⟨rfl, hg1⟩
  go_wp2_with fail
  refine (HW.out _ (by repeat (first | exact Gr.refl _ | refine Gr.alloc ?_ | refine Gr.drew ?_ | refine Gr.trans ?_ (by assumption)))).mono ?_
  rintro e w2 ⟨rfl, hg2⟩
  go_wp2_with fail
  refine (HN.out _ w2.heap.size (by repeat (first | exact Gr.refl _ | refine Gr.alloc ?_ | refine Gr.drew ?_ | refine Gr.trans ?_ (by assumption))) (by simp)).mono ?_
  rintro e w3 ⟨ad2, cap2, rfl, hia, hfr, hg3⟩
  have B1 := (((Bx4.new w (.int .i64 0) (.int .i64 0) (.slice none 0 0) (.slice none 0 0) 37 _ rfl).gr hg1).gr hg2).gr ((Gr.refl _).alloc.trans hg3)
  have G1 := Lib.hid (((Gr.refl w).alloc.trans hg1).trans hg2)
  have G3 := Lib.hid (G1.out.alloc.trans hg3)
  have hs2 := G1.out.size
  have hs3 : w.heap.size < w2.heap.size := by have := hg1.size; have := hg2.size; simp at *; omega
  have FA := fill_all (ab := none) (B := []) B1 (fun j h => absurd h (by simp)) hia (fun p e => by have := hfr p e; simp at this; omega) (-1) 0 none 0 0 (.slice ad2 (Sg.nums L).length cap2)
  have HFA := Lib.hid FA
  clear hg1 hg2 hg3 hia hfr FA
  obtain ⟨c0, c1, c2, c3, f0, f1, f2, f3, hlt⟩ := B1
  go_wp2
  exact bodyPost_ret (v := .tuple #[.agg #[.int .i64 (-1), .int .i64 0, .slice none 0 0, .slice ad2 (Sg.nums L).length cap2], .int .i64 0]) (by simp [results, Tryd.results14, go_sem, c0, c1, c2, c3]) rfl
    ⟨none, 0, ad2, cap2, rfl, HFA.out.1, HFA.out.2, gr_fill G3.out (Nat.le_refl _) _ _ _ _⟩
end Go.Proofs.YtoeibjflaiiljaaDoor
