/- Parts of these proofs, laid together. -/
import Derived.Test.YtojmhhmpmpbpfaaGreatDoorGL
namespace Go.Proofs.YtojmhhmpmpbpfaaGreatDoor
open Go.RowKit Go.Maps
open Dk (Fl Fo St Ok Up zf emp used cutF fallA kf)
variable {w w' : World} {b m : Nat} {A : Nat → Int} {s : St}

theorem app_dead {n : Int} {d : ByteArray} (hd : s.dead = true) : Dk.appE s n d = 150 ∧ Dk.appS s n d = s := by simp [Dk.appE, Dk.appS, hd]
theorem app_arg {n : Int} {d : ByteArray} (hd : s.dead = false) (h1 : n < 0 ∨ 1000000 < n) : Dk.appE s n d = 2 ∧ Dk.appS s n d = s := by simp [Dk.appE, Dk.appS, hd, h1]
theorem app_full {n : Int} {d : ByteArray} (hd : s.dead = false) (h1 : ¬ (n < 0 ∨ 1000000 < n)) (h2 : (Dk.has s.L n = false ∧ 8 ≤ s.L.length) ∨ s.room < (used s.L : Int) + d.size) : Dk.appE s n d = 151 ∧ Dk.appS s n d = s := by
  unfold Dk.appE Dk.appS
  rw [hd, if_neg h1, if_neg h1, if_pos h2, if_pos h2]
  simp
theorem app_none {n : Int} {d : ByteArray} (hd : s.dead = false) (h1 : ¬ (n < 0 ∨ 1000000 < n)) (h2 : ¬ ((Dk.has s.L n = false ∧ 8 ≤ s.L.length) ∨ s.room < (used s.L : Int) + d.size)) (h3 : d.size = 0) : Dk.appE s n d = 0 ∧ Dk.appS s n d = s := by
  unfold Dk.appE Dk.appS
  rw [hd, if_neg h1, if_neg h1, if_neg h2, if_neg h2, if_pos h3, if_pos h3]
  simp
theorem app_go {n : Int} {d : ByteArray} (hd : s.dead = false) (h1 : ¬ (n < 0 ∨ 1000000 < n)) (h2 : ¬ ((Dk.has s.L n = false ∧ 8 ≤ s.L.length) ∨ s.room < (used s.L : Int) + d.size)) (h3 : ¬ d.size = 0) : Dk.appE s n d = Dk.cntE s ∧ Dk.appS s n d = Dk.cntS { s with L := Dk.ins (Dk.ext s.L n d) s.L } := by
  unfold Dk.appE Dk.appS
  rw [hd, if_neg h1, if_neg h1, if_neg h2, if_neg h2, if_neg h3, if_neg h3]
  simp
theorem cat_run (a c : ByteArray) (h : a.size + c.size ≤ 9223372036854775807) (w : World) : (Op.stringOp .add a c).run Tryz.prog w = .ok (.string (a ++ c)) w := run_string_add_sum w _ _ h
theorem wrapI {n : Int} (h0 : -9223372036854775808 ≤ n) (h1 : n ≤ 9223372036854775807) : IntKind.i64.wrap n = n := by rw [IntKind.wrap_i64]; omega
theorem emp_any (d : ByteArray) : d.toList.isEmpty = decide (d.size = 0) := by
  rw [ByteArray.toList_eq]
  cases d with
  | mk a =>
    show a.toList.isEmpty = decide (a.size = 0)
    cases a with
    | mk l => cases l <;> simp
set_option maxHeartbeats 4000000 in
set_option maxRecDepth 100000 in
theorem append_dead (h : DAt w b m A s) (n : Int) (d : ByteArray) (hd : s.dead = true) :
    Calls Tryz.prog 74 #[ptr b, .int .i64 n, .string d] w fun e w' => e = .returned (.int .i64 (Dk.appE s n d)) ∧ FaR w w' b m (Dk.appS s n d) := by
  have HP := Lib.hid (power_any h)
  unfold Dk.craE at HP
  rw [hd] at HP
  rw [(app_dead hd).1, (app_dead hd).2]
  have HD := Lib.hid h
  clear h
  go_enter Tryz.func74, Tryz.ntmps74
  go_wp2_with (go_at_call 41; refine HP.out.mono ?_; rintro e w' ⟨rfl, hw⟩; obtain rfl := hw.symm; clear hw)
  go_ret
  exact ⟨rfl, FaR.refl HD.out⟩
set_option maxHeartbeats 4000000 in
set_option maxRecDepth 100000 in
theorem append_arg (h : DAt w b m A s) (n : Int) (d : ByteArray) (hd : s.dead = false) (h1 : n < 0 ∨ 1000000 < n) :
    Calls Tryz.prog 74 #[ptr b, .int .i64 n, .string d] w fun e w' => e = .returned (.int .i64 (Dk.appE s n d)) ∧ FaR w w' b m (Dk.appS s n d) := by
  have HP := Lib.hid (power_any h)
  unfold Dk.craE at HP
  rw [hd] at HP
  rw [(app_arg hd h1).1, (app_arg hd h1).2]
  have HD := Lib.hid h
  have HW := Lib.hid (within_any n 0 1000000 w)
  rw [decide_eq_false (show ¬ (0 ≤ n ∧ n ≤ 1000000) by omega)] at HW
  clear h
  go_enter Tryz.func74, Tryz.ntmps74
  go_wp2_with (first
    | (go_at_call 41; refine HP.out.mono ?_; rintro e w' ⟨rfl, hw⟩; obtain rfl := hw.symm; clear hw)
    | (go_at_call 52; refine HW.out.mono ?_; rintro e w' ⟨rfl, hw⟩; obtain rfl := hw.symm; clear hw))
  go_ret
  exact ⟨rfl, FaR.refl HD.out⟩
set_option maxHeartbeats 8000000 in
set_option maxRecDepth 100000 in
theorem append_v1 (h : DAt w b m A s) (n : Int) (d : ByteArray) (hd : s.dead = false) (h1 : ¬ (n < 0 ∨ 1000000 < n)) (hh : Dk.has s.L n = false) (h8 : 8 ≤ s.L.length) :
    Calls Tryz.prog 74 #[ptr b, .int .i64 n, .string d] w fun e w' => e = .returned (.int .i64 (Dk.appE s n d)) ∧ FaR w w' b m (Dk.appS s n d) := by
  have HP := Lib.hid (power_any h)
  unfold Dk.craE at HP
  rw [hd] at HP
  have HW := Lib.hid (within_any n 0 1000000 w)
  rw [decide_eq_true (show 0 ≤ n ∧ n ≤ 1000000 by omega)] at HW
  have HD := Lib.hid h
  have hr0 := h.ok.r0
  have hr1 := h.ok.r1
  have hfit := h.ok.fits
  rw [(app_full hd h1 (Or.inl ⟨hh, h8⟩)).1, (app_full hd h1 (Or.inl ⟨hh, h8⟩)).2]
  have hl := h.ok.len
  have hlook := (h.fl.look (k := n) (by omega) (by omega)).1
  rw [hh] at hlook
  have HU : Hid (∀ w', Gr w w' → Calls Tryz.prog 95 #[ptr b] w' fun e w2 => e = .returned (.int .i64 (used s.L : Int)) ∧ Gr w' w2) := fun w' g => used_any (h.gr g)
  have HS : Hid (∀ w', Gr w w' → w'.cell? ⟨b, 0, none⟩ = some (.map (some m)) ∧ w'.cell? ⟨b, 1, none⟩ = some (.int .i64 s.room) ∧ ∀ ty, (Builtin.len_ #[61] ty #[.map (some m)]).run Tryz.prog w' = .ok (.int .i64 (s.L.length : Int)) w') := fun w' g => ⟨(h.gr g).mp, (h.gr g).rm, fun ty => (h.gr g).fl.len ty⟩
  have hmp := h.mp
  clear h
  have h8b : decide ((8 : Int) ≤ (s.L.length : Int)) = true := decide_eq_true (by omega)
  generalize hget : Dk.get s.L n = f at *
  generalize hlen : s.L.length = ll at *
  generalize hus : used s.L = us at *
  obtain ⟨fn, fd, fy⟩ := f
  try simp only at *
  go_enter Tryz.func74, Tryz.ntmps74
  go_upto_region 7 with (first
    | (go_at_call 41; refine HP.out.mono ?_; rintro e w' ⟨rfl, hw⟩; obtain rfl := hw.symm; clear hw)
    | (go_at_call 52; refine HW.out.mono ?_; rintro e w' ⟨rfl, hw⟩; obtain rfl := hw.symm; clear hw))
  refine wp_region_held_drew (S := (fun w' => w'.cell? ⟨b, 0, none⟩ = some (.map (some m)) ∧ w'.cell? ⟨b, 1, none⟩ = some (.int .i64 s.room) ∧ ∀ ty, (Builtin.len_ #[61] ty #[.map (some m)]).run Tryz.prog w' = .ok (.int .i64 (ll : Int)) w')) (by kernel_rfl) (by first | with_reducible exact hHeld | with_reducible exact HS.out _ (Gr.refl w).alloc.drew | with_reducible exact HS.out _ HG2.out) (fun hHeld => ?_)
  refine take_yes 0 27 (v := ?_) rfl rfl (by kernel_rfl) (by kernel_rfl) (by kernel_rfl) (fun _ _ _ h => h) (by rfl) ?_ hHeld ?_
  rotate_left
  · (intro w hSw; (try dsimp only at hSw); go_simp; try with_reducible rfl)
  simp only [Act.put, List.setIfInBounds_toArray, List.set_cons_zero, List.set_cons_succ]
  refine take_yes 1 28 (v := ?_) rfl rfl (by kernel_rfl) (by kernel_rfl) (by kernel_rfl) (fun _ _ _ h => h) (by rfl) ?_ hHeld ?_
  rotate_left
  · (intro w hSw; (try dsimp only at hSw); go_simp; try with_reducible rfl)
  simp only [Act.put, List.setIfInBounds_toArray, List.set_cons_zero, List.set_cons_succ]
  refine take_yes 2 29 (v := ?_) rfl rfl (by kernel_rfl) (by kernel_rfl) (by kernel_rfl) (fun _ _ _ h => h) (by rfl) ?_ hHeld ?_
  rotate_left
  · (intro w hSw; (try dsimp only at hSw); go_simp; try with_reducible rfl)
  simp only [Act.put, List.setIfInBounds_toArray, List.set_cons_zero, List.set_cons_succ]
  refine take_yes 3 30 (v := ?_) rfl rfl (by kernel_rfl) (by kernel_rfl) (by kernel_rfl) (fun _ _ _ h => h) (by rfl) ?_ hHeld ?_
  rotate_left
  · (intro w hSw; (try dsimp only at hSw); go_simp; try with_reducible rfl)
  simp only [Act.put, List.setIfInBounds_toArray, List.set_cons_zero, List.set_cons_succ]
  refine take_yes 4 31 (v := ?_) rfl rfl (by kernel_rfl) (by kernel_rfl) (by kernel_rfl) (fun _ _ _ h => h) (by rfl) ?_ hHeld ?_
  rotate_left
  · (intro w hSw; (try dsimp only at hSw); go_simp; try with_reducible rfl)
  simp only [Act.put, List.setIfInBounds_toArray, List.set_cons_zero, List.set_cons_succ]
  refine take_yes 5 32 (v := ?_) rfl rfl (by kernel_rfl) (by kernel_rfl) (by kernel_rfl) (fun _ _ _ h => h) (by rfl) ?_ hHeld ?_
  rotate_left
  · (intro w hSw; (try dsimp only at hSw); go_simp; try with_reducible rfl)
  simp only [Act.put, List.setIfInBounds_toArray, List.set_cons_zero, List.set_cons_succ]
  refine take_yes 6 33 (v := ?_) rfl rfl (by kernel_rfl) (by kernel_rfl) (by kernel_rfl) (fun _ _ _ h => h) (by rfl) ?_ hHeld ?_
  rotate_left
  · (intro w hSw; (try dsimp only at hSw); go_simp; try with_reducible rfl)
  simp only [Act.put, List.setIfInBounds_toArray, List.set_cons_zero, List.set_cons_succ]
  refine take_yes 7 34 (v := ?_) rfl rfl (by kernel_rfl) (by kernel_rfl) (by kernel_rfl) (fun _ _ _ h => h) (by rfl) ?_ hHeld ?_
  rotate_left
  · (intro w hSw; (try dsimp only at hSw); go_simp; try with_reducible rfl)
  simp only [Act.put, List.setIfInBounds_toArray, List.set_cons_zero, List.set_cons_succ]
  refine take_yes 8 35 (v := ?_) rfl rfl (by kernel_rfl) (by kernel_rfl) (by kernel_rfl) (fun _ _ _ h => h) (by rfl) ?_ hHeld ?_
  rotate_left
  · (intro w hSw; (try dsimp only at hSw); go_simp; try with_reducible rfl)
  simp only [Act.put, List.setIfInBounds_toArray, List.set_cons_zero, List.set_cons_succ]
  refine take_yes 9 36 (v := ?_) rfl rfl (by kernel_rfl) (by kernel_rfl) (by kernel_rfl) (fun _ _ _ h => h) (by rfl) ?_ hHeld ?_
  rotate_left
  · (intro w hSw; (try dsimp only at hSw); go_simp; try with_reducible rfl)
  simp only [Act.put, List.setIfInBounds_toArray, List.set_cons_zero, List.set_cons_succ]
  refine take_yes 10 37 (v := ?_) rfl rfl (by kernel_rfl) (by kernel_rfl) (by kernel_rfl) (fun _ _ _ h => h) (by rfl) ?_ hHeld ?_
  rotate_left
  · (intro w hSw; (try dsimp only at hSw); go_simp; try with_reducible rfl)
  simp only [Act.put, List.setIfInBounds_toArray, List.set_cons_zero, List.set_cons_succ]
  refine take_not 11 38 rfl rfl (by kernel_rfl) (by kernel_rfl) (by kernel_rfl) (fun _ _ _ h => h) (by rfl) hHeld ?_
  simp only [Act.put, List.setIfInBounds_toArray, List.set_cons_zero, List.set_cons_succ]
  refine take_not 12 39 rfl rfl (by kernel_rfl) (by kernel_rfl) (by kernel_rfl) (fun _ _ _ h => h) (by rfl) hHeld ?_
  simp only [Act.put, List.setIfInBounds_toArray, List.set_cons_zero, List.set_cons_succ]
  refine take_not 13 40 rfl rfl (by kernel_rfl) (by kernel_rfl) (by kernel_rfl) (fun _ _ _ h => h) (by rfl) hHeld ?_
  simp only [Act.put, List.setIfInBounds_toArray, List.set_cons_zero, List.set_cons_succ]
  refine take_not 14 41 rfl rfl (by kernel_rfl) (by kernel_rfl) (by kernel_rfl) (fun _ _ _ h => h) (by rfl) hHeld ?_
  simp only [Act.put, List.setIfInBounds_toArray, List.set_cons_zero, List.set_cons_succ]
  refine take_not 15 42 rfl rfl (by kernel_rfl) (by kernel_rfl) (by kernel_rfl) (fun _ _ _ h => h) (by rfl) hHeld ?_
  simp only [Act.put, List.setIfInBounds_toArray, List.set_cons_zero, List.set_cons_succ]
  refine take_not 16 43 rfl rfl (by kernel_rfl) (by kernel_rfl) (by kernel_rfl) (fun _ _ _ h => h) (by rfl) hHeld ?_
  simp only [Act.put, List.setIfInBounds_toArray, List.set_cons_zero, List.set_cons_succ]
  refine take_not 17 44 rfl rfl (by kernel_rfl) (by kernel_rfl) (by kernel_rfl) (fun _ _ _ h => h) (by rfl) hHeld ?_
  simp only [Act.put, List.setIfInBounds_toArray, List.set_cons_zero, List.set_cons_succ]
  refine take_not 18 45 rfl rfl (by kernel_rfl) (by kernel_rfl) (by kernel_rfl) (fun _ _ _ h => h) (by rfl) hHeld ?_
  simp only [Act.put, List.setIfInBounds_toArray, List.set_cons_zero, List.set_cons_succ]
  refine take_not 19 46 rfl rfl (by kernel_rfl) (by kernel_rfl) (by kernel_rfl) (fun _ _ _ h => h) (by rfl) hHeld ?_
  simp only [Act.put, List.setIfInBounds_toArray, List.set_cons_zero, List.set_cons_succ]
  refine take_not 20 47 rfl rfl (by kernel_rfl) (by kernel_rfl) (by kernel_rfl) (fun _ _ _ h => h) (by rfl) hHeld ?_
  simp only [Act.put, List.setIfInBounds_toArray, List.set_cons_zero, List.set_cons_succ]
  refine take_yes 21 48 (v := ?_) rfl rfl (by kernel_rfl) (by kernel_rfl) (by kernel_rfl) (fun _ _ _ h => h) (by rfl) ?_ hHeld ?_
  rotate_left
  · (intro w hSw; (try dsimp only at hSw); go_simp; try with_reducible rfl)
  simp only [Act.put, List.setIfInBounds_toArray, List.set_cons_zero, List.set_cons_succ]
  refine wpAnyH_done (by kernel_rfl) ?_ _
  clear hHeld
  go_wp2
  go_ret
  exact ⟨rfl, (FaR.refl HD.out).up (Gr.refl w).alloc.drew⟩
set_option maxHeartbeats 8000000 in
set_option maxRecDepth 100000 in
theorem append_v2 (h : DAt w b m A s) (n : Int) (d : ByteArray) (hd : s.dead = false) (h1 : ¬ (n < 0 ∨ 1000000 < n)) (hh : Dk.has s.L n = false) (h8 : ¬ 8 ≤ s.L.length) (hf : s.room < (used s.L : Int) + d.size) :
    Calls Tryz.prog 74 #[ptr b, .int .i64 n, .string d] w fun e w' => e = .returned (.int .i64 (Dk.appE s n d)) ∧ FaR w w' b m (Dk.appS s n d) := by
  have HP := Lib.hid (power_any h)
  unfold Dk.craE at HP
  rw [hd] at HP
  have HW := Lib.hid (within_any n 0 1000000 w)
  rw [decide_eq_true (show 0 ≤ n ∧ n ≤ 1000000 by omega)] at HW
  have HD := Lib.hid h
  have hr0 := h.ok.r0
  have hr1 := h.ok.r1
  have hfit := h.ok.fits
  rw [(app_full hd h1 (Or.inr hf)).1, (app_full hd h1 (Or.inr hf)).2]
  have hl := h.ok.len
  have hlook := (h.fl.look (k := n) (by omega) (by omega)).1
  rw [hh] at hlook
  have HU : Hid (∀ w', Gr w w' → Calls Tryz.prog 95 #[ptr b] w' fun e w2 => e = .returned (.int .i64 (used s.L : Int)) ∧ Gr w' w2) := fun w' g => used_any (h.gr g)
  have HS : Hid (∀ w', Gr w w' → w'.cell? ⟨b, 0, none⟩ = some (.map (some m)) ∧ w'.cell? ⟨b, 1, none⟩ = some (.int .i64 s.room) ∧ ∀ ty, (Builtin.len_ #[61] ty #[.map (some m)]).run Tryz.prog w' = .ok (.int .i64 (s.L.length : Int)) w') := fun w' g => ⟨(h.gr g).mp, (h.gr g).rm, fun ty => (h.gr g).fl.len ty⟩
  have hmp := h.mp
  clear h
  have h8b : decide ((8 : Int) ≤ (s.L.length : Int)) = false := decide_eq_false (by omega)
  have hwr : IntKind.i64.wrap (s.room - (used s.L : Int)) = s.room - (used s.L : Int) := wrapI (by omega) (by omega)
  have hfb : decide (s.room - (used s.L : Int) < (d.size : Int)) = true := decide_eq_true (by omega)
  generalize hget : Dk.get s.L n = f at *
  generalize hlen : s.L.length = ll at *
  generalize hus : used s.L = us at *
  obtain ⟨fn, fd, fy⟩ := f
  try simp only at *
  go_enter Tryz.func74, Tryz.ntmps74
  go_upto_region 7 with (first
    | (go_at_call 41; refine HP.out.mono ?_; rintro e w' ⟨rfl, hw⟩; obtain rfl := hw.symm; clear hw)
    | (go_at_call 52; refine HW.out.mono ?_; rintro e w' ⟨rfl, hw⟩; obtain rfl := hw.symm; clear hw))
  refine wp_region_held_drew (S := (fun w' => w'.cell? ⟨b, 0, none⟩ = some (.map (some m)) ∧ w'.cell? ⟨b, 1, none⟩ = some (.int .i64 s.room) ∧ ∀ ty, (Builtin.len_ #[61] ty #[.map (some m)]).run Tryz.prog w' = .ok (.int .i64 (ll : Int)) w')) (by kernel_rfl) (by first | with_reducible exact hHeld | with_reducible exact HS.out _ (Gr.refl w).alloc.drew | with_reducible exact HS.out _ HG2.out) (fun hHeld => ?_)
  refine take_yes 0 27 (v := ?_) rfl rfl (by kernel_rfl) (by kernel_rfl) (by kernel_rfl) (fun _ _ _ h => h) (by rfl) ?_ hHeld ?_
  rotate_left
  · (intro w hSw; (try dsimp only at hSw); go_simp; try with_reducible rfl)
  simp only [Act.put, List.setIfInBounds_toArray, List.set_cons_zero, List.set_cons_succ]
  refine take_yes 1 28 (v := ?_) rfl rfl (by kernel_rfl) (by kernel_rfl) (by kernel_rfl) (fun _ _ _ h => h) (by rfl) ?_ hHeld ?_
  rotate_left
  · (intro w hSw; (try dsimp only at hSw); go_simp; try with_reducible rfl)
  simp only [Act.put, List.setIfInBounds_toArray, List.set_cons_zero, List.set_cons_succ]
  refine take_yes 2 29 (v := ?_) rfl rfl (by kernel_rfl) (by kernel_rfl) (by kernel_rfl) (fun _ _ _ h => h) (by rfl) ?_ hHeld ?_
  rotate_left
  · (intro w hSw; (try dsimp only at hSw); go_simp; try with_reducible rfl)
  simp only [Act.put, List.setIfInBounds_toArray, List.set_cons_zero, List.set_cons_succ]
  refine take_yes 3 30 (v := ?_) rfl rfl (by kernel_rfl) (by kernel_rfl) (by kernel_rfl) (fun _ _ _ h => h) (by rfl) ?_ hHeld ?_
  rotate_left
  · (intro w hSw; (try dsimp only at hSw); go_simp; try with_reducible rfl)
  simp only [Act.put, List.setIfInBounds_toArray, List.set_cons_zero, List.set_cons_succ]
  refine take_yes 4 31 (v := ?_) rfl rfl (by kernel_rfl) (by kernel_rfl) (by kernel_rfl) (fun _ _ _ h => h) (by rfl) ?_ hHeld ?_
  rotate_left
  · (intro w hSw; (try dsimp only at hSw); go_simp; try with_reducible rfl)
  simp only [Act.put, List.setIfInBounds_toArray, List.set_cons_zero, List.set_cons_succ]
  refine take_yes 5 32 (v := ?_) rfl rfl (by kernel_rfl) (by kernel_rfl) (by kernel_rfl) (fun _ _ _ h => h) (by rfl) ?_ hHeld ?_
  rotate_left
  · (intro w hSw; (try dsimp only at hSw); go_simp; try with_reducible rfl)
  simp only [Act.put, List.setIfInBounds_toArray, List.set_cons_zero, List.set_cons_succ]
  refine take_yes 6 33 (v := ?_) rfl rfl (by kernel_rfl) (by kernel_rfl) (by kernel_rfl) (fun _ _ _ h => h) (by rfl) ?_ hHeld ?_
  rotate_left
  · (intro w hSw; (try dsimp only at hSw); go_simp; try with_reducible rfl)
  simp only [Act.put, List.setIfInBounds_toArray, List.set_cons_zero, List.set_cons_succ]
  refine take_yes 7 34 (v := ?_) rfl rfl (by kernel_rfl) (by kernel_rfl) (by kernel_rfl) (fun _ _ _ h => h) (by rfl) ?_ hHeld ?_
  rotate_left
  · (intro w hSw; (try dsimp only at hSw); go_simp; try with_reducible rfl)
  simp only [Act.put, List.setIfInBounds_toArray, List.set_cons_zero, List.set_cons_succ]
  refine take_yes 8 35 (v := ?_) rfl rfl (by kernel_rfl) (by kernel_rfl) (by kernel_rfl) (fun _ _ _ h => h) (by rfl) ?_ hHeld ?_
  rotate_left
  · (intro w hSw; (try dsimp only at hSw); go_simp; try with_reducible rfl)
  simp only [Act.put, List.setIfInBounds_toArray, List.set_cons_zero, List.set_cons_succ]
  refine take_yes 9 36 (v := ?_) rfl rfl (by kernel_rfl) (by kernel_rfl) (by kernel_rfl) (fun _ _ _ h => h) (by rfl) ?_ hHeld ?_
  rotate_left
  · (intro w hSw; (try dsimp only at hSw); go_simp; try with_reducible rfl)
  simp only [Act.put, List.setIfInBounds_toArray, List.set_cons_zero, List.set_cons_succ]
  refine take_yes 10 37 (v := ?_) rfl rfl (by kernel_rfl) (by kernel_rfl) (by kernel_rfl) (fun _ _ _ h => h) (by rfl) ?_ hHeld ?_
  rotate_left
  · (intro w hSw; (try dsimp only at hSw); go_simp; try with_reducible rfl)
  simp only [Act.put, List.setIfInBounds_toArray, List.set_cons_zero, List.set_cons_succ]
  refine take_yes 11 38 (v := ?_) rfl rfl (by kernel_rfl) (by kernel_rfl) (by kernel_rfl) (fun _ _ _ h => h) (by rfl) ?_ hHeld ?_
  rotate_left
  · (intro w hSw; (try dsimp only at hSw); go_simp; try with_reducible rfl)
  simp only [Act.put, List.setIfInBounds_toArray, List.set_cons_zero, List.set_cons_succ]
  refine take_yes 12 39 (v := ?_) rfl rfl (by kernel_rfl) (by kernel_rfl) (by kernel_rfl) (fun _ _ _ h => h) (by rfl) ?_ hHeld ?_
  rotate_left
  · (intro w hSw; (try dsimp only at hSw); go_simp; try with_reducible rfl)
  simp only [Act.put, List.setIfInBounds_toArray, List.set_cons_zero, List.set_cons_succ]
  refine take_yes 13 40 (v := ?_) rfl rfl (by kernel_rfl) (by kernel_rfl) (by kernel_rfl) (fun _ _ _ h => h) (by rfl) ?_ hHeld ?_
  rotate_left
  · (intro w hSw; (try dsimp only at hSw); go_simp; try with_reducible rfl)
  simp only [Act.put, List.setIfInBounds_toArray, List.set_cons_zero, List.set_cons_succ]
  refine take_yes 14 41 (v := ?_) rfl rfl (by kernel_rfl) (by kernel_rfl) (by kernel_rfl) (fun _ _ _ h => h) (by rfl) ?_ hHeld ?_
  rotate_left
  · (intro w hSw; (try dsimp only at hSw); go_simp; try with_reducible rfl)
  simp only [Act.put, List.setIfInBounds_toArray, List.set_cons_zero, List.set_cons_succ]
  refine take_yes 15 42 (v := ?_) rfl rfl (by kernel_rfl) (by kernel_rfl) (by kernel_rfl) (fun _ _ _ h => h) (by rfl) ?_ hHeld ?_
  rotate_left
  · (intro w hSw; (try dsimp only at hSw); go_simp; try with_reducible rfl)
  simp only [Act.put, List.setIfInBounds_toArray, List.set_cons_zero, List.set_cons_succ]
  refine take_yes 16 43 (v := ?_) rfl rfl (by kernel_rfl) (by kernel_rfl) (by kernel_rfl) (fun _ _ _ h => h) (by rfl) ?_ hHeld ?_
  rotate_left
  · (intro w hSw; (try dsimp only at hSw); go_simp; try with_reducible rfl)
  simp only [Act.put, List.setIfInBounds_toArray, List.set_cons_zero, List.set_cons_succ]
  refine take_yes 17 44 (v := ?_) rfl rfl (by kernel_rfl) (by kernel_rfl) (by kernel_rfl) (fun _ _ _ h => h) (by rfl) ?_ hHeld ?_
  rotate_left
  · (intro w hSw; (try dsimp only at hSw); go_simp; try with_reducible rfl)
  simp only [Act.put, List.setIfInBounds_toArray, List.set_cons_zero, List.set_cons_succ]
  refine wpAnyH_ready (rs := [18]) (by kernel_rfl) (by simp) (AllReadyH.cons rfl (fun K hK => ?_) AllReadyH.nil)
  go_simp
  (go_at_call 95; refine (HU.out _ (Gr.refl w).alloc.drew).mono ?_; rintro e w2 ⟨rfl, hg2⟩; have HG2 := Lib.hid ((Gr.refl w).alloc.drew.trans hg2))
  (try go_wp2_with fail)
  refine hK.out _ _ (by first | with_reducible exact hHeld | with_reducible exact HS.out _ (Gr.refl w).alloc.drew | with_reducible exact HS.out _ HG2.out) (fun hHeldN => ?_)
  clear hHeld hK K
  have hHeld := hHeldN
  clear hHeldN
  refine take_yes 19 46 (v := ?_) rfl rfl (by kernel_rfl) (by kernel_rfl) (by kernel_rfl) (fun _ _ _ h => h) (by rfl) ?_ hHeld ?_
  rotate_left
  · (intro w hSw; (try dsimp only at hSw); go_simp; try with_reducible rfl)
  simp only [Act.put, List.setIfInBounds_toArray, List.set_cons_zero, List.set_cons_succ]
  refine take_yes 20 47 (v := ?_) rfl rfl (by kernel_rfl) (by kernel_rfl) (by kernel_rfl) (fun _ _ _ h => h) (by rfl) ?_ hHeld ?_
  rotate_left
  · (intro w hSw; (try dsimp only at hSw); go_simp; try with_reducible rfl)
  simp only [Act.put, List.setIfInBounds_toArray, List.set_cons_zero, List.set_cons_succ]
  refine take_yes 21 48 (v := ?_) rfl rfl (by kernel_rfl) (by kernel_rfl) (by kernel_rfl) (fun _ _ _ h => h) (by rfl) ?_ hHeld ?_
  rotate_left
  · (intro w hSw; (try dsimp only at hSw); go_simp; try with_reducible rfl)
  simp only [Act.put, List.setIfInBounds_toArray, List.set_cons_zero, List.set_cons_succ]
  refine wpAnyH_done (by kernel_rfl) ?_ _
  clear hHeld
  go_wp2
  go_ret
  exact ⟨rfl, (FaR.refl HD.out).up HG2.out⟩
set_option maxHeartbeats 8000000 in
set_option maxRecDepth 100000 in
theorem append_v3 (h : DAt w b m A s) (n : Int) (d : ByteArray) (hd : s.dead = false) (h1 : ¬ (n < 0 ∨ 1000000 < n)) (hh : Dk.has s.L n = true) (hf : s.room < (used s.L : Int) + d.size) :
    Calls Tryz.prog 74 #[ptr b, .int .i64 n, .string d] w fun e w' => e = .returned (.int .i64 (Dk.appE s n d)) ∧ FaR w w' b m (Dk.appS s n d) := by
  have HP := Lib.hid (power_any h)
  unfold Dk.craE at HP
  rw [hd] at HP
  have HW := Lib.hid (within_any n 0 1000000 w)
  rw [decide_eq_true (show 0 ≤ n ∧ n ≤ 1000000 by omega)] at HW
  have HD := Lib.hid h
  have hr0 := h.ok.r0
  have hr1 := h.ok.r1
  have hfit := h.ok.fits
  rw [(app_full hd h1 (Or.inr hf)).1, (app_full hd h1 (Or.inr hf)).2]
  have hl := h.ok.len
  have hlook := (h.fl.look (k := n) (by omega) (by omega)).1
  rw [hh] at hlook
  have HU : Hid (∀ w', Gr w w' → Calls Tryz.prog 95 #[ptr b] w' fun e w2 => e = .returned (.int .i64 (used s.L : Int)) ∧ Gr w' w2) := fun w' g => used_any (h.gr g)
  have HS : Hid (∀ w', Gr w w' → w'.cell? ⟨b, 0, none⟩ = some (.map (some m)) ∧ w'.cell? ⟨b, 1, none⟩ = some (.int .i64 s.room) ∧ ∀ ty, (Builtin.len_ #[61] ty #[.map (some m)]).run Tryz.prog w' = .ok (.int .i64 (s.L.length : Int)) w') := fun w' g => ⟨(h.gr g).mp, (h.gr g).rm, fun ty => (h.gr g).fl.len ty⟩
  have hmp := h.mp
  clear h
  have hwr : IntKind.i64.wrap (s.room - (used s.L : Int)) = s.room - (used s.L : Int) := wrapI (by omega) (by omega)
  have hfb : decide (s.room - (used s.L : Int) < (d.size : Int)) = true := decide_eq_true (by omega)
  generalize hget : Dk.get s.L n = f at *
  generalize hlen : s.L.length = ll at *
  generalize hus : used s.L = us at *
  obtain ⟨fn, fd, fy⟩ := f
  try simp only at *
  go_enter Tryz.func74, Tryz.ntmps74
  go_upto_region 7 with (first
    | (go_at_call 41; refine HP.out.mono ?_; rintro e w' ⟨rfl, hw⟩; obtain rfl := hw.symm; clear hw)
    | (go_at_call 52; refine HW.out.mono ?_; rintro e w' ⟨rfl, hw⟩; obtain rfl := hw.symm; clear hw))
  refine wp_region_held_drew (S := (fun w' => w'.cell? ⟨b, 0, none⟩ = some (.map (some m)) ∧ w'.cell? ⟨b, 1, none⟩ = some (.int .i64 s.room) ∧ ∀ ty, (Builtin.len_ #[61] ty #[.map (some m)]).run Tryz.prog w' = .ok (.int .i64 (ll : Int)) w')) (by kernel_rfl) (by first | with_reducible exact hHeld | with_reducible exact HS.out _ (Gr.refl w).alloc.drew | with_reducible exact HS.out _ HG2.out) (fun hHeld => ?_)
  refine take_yes 0 27 (v := ?_) rfl rfl (by kernel_rfl) (by kernel_rfl) (by kernel_rfl) (fun _ _ _ h => h) (by rfl) ?_ hHeld ?_
  rotate_left
  · (intro w hSw; (try dsimp only at hSw); go_simp; try with_reducible rfl)
  simp only [Act.put, List.setIfInBounds_toArray, List.set_cons_zero, List.set_cons_succ]
  refine take_yes 1 28 (v := ?_) rfl rfl (by kernel_rfl) (by kernel_rfl) (by kernel_rfl) (fun _ _ _ h => h) (by rfl) ?_ hHeld ?_
  rotate_left
  · (intro w hSw; (try dsimp only at hSw); go_simp; try with_reducible rfl)
  simp only [Act.put, List.setIfInBounds_toArray, List.set_cons_zero, List.set_cons_succ]
  refine take_yes 2 29 (v := ?_) rfl rfl (by kernel_rfl) (by kernel_rfl) (by kernel_rfl) (fun _ _ _ h => h) (by rfl) ?_ hHeld ?_
  rotate_left
  · (intro w hSw; (try dsimp only at hSw); go_simp; try with_reducible rfl)
  simp only [Act.put, List.setIfInBounds_toArray, List.set_cons_zero, List.set_cons_succ]
  refine take_not 3 30 rfl rfl (by kernel_rfl) (by kernel_rfl) (by kernel_rfl) (fun _ _ _ h => h) (by rfl) hHeld ?_
  simp only [Act.put, List.setIfInBounds_toArray, List.set_cons_zero, List.set_cons_succ]
  refine take_not 4 31 rfl rfl (by kernel_rfl) (by kernel_rfl) (by kernel_rfl) (fun _ _ _ h => h) (by rfl) hHeld ?_
  simp only [Act.put, List.setIfInBounds_toArray, List.set_cons_zero, List.set_cons_succ]
  refine take_not 5 32 rfl rfl (by kernel_rfl) (by kernel_rfl) (by kernel_rfl) (fun _ _ _ h => h) (by rfl) hHeld ?_
  simp only [Act.put, List.setIfInBounds_toArray, List.set_cons_zero, List.set_cons_succ]
  refine take_not 6 33 rfl rfl (by kernel_rfl) (by kernel_rfl) (by kernel_rfl) (fun _ _ _ h => h) (by rfl) hHeld ?_
  simp only [Act.put, List.setIfInBounds_toArray, List.set_cons_zero, List.set_cons_succ]
  refine take_not 7 34 rfl rfl (by kernel_rfl) (by kernel_rfl) (by kernel_rfl) (fun _ _ _ h => h) (by rfl) hHeld ?_
  simp only [Act.put, List.setIfInBounds_toArray, List.set_cons_zero, List.set_cons_succ]
  refine take_not 8 35 rfl rfl (by kernel_rfl) (by kernel_rfl) (by kernel_rfl) (fun _ _ _ h => h) (by rfl) hHeld ?_
  simp only [Act.put, List.setIfInBounds_toArray, List.set_cons_zero, List.set_cons_succ]
  refine take_yes 9 36 (v := ?_) rfl rfl (by kernel_rfl) (by kernel_rfl) (by kernel_rfl) (fun _ _ _ h => h) (by rfl) ?_ hHeld ?_
  rotate_left
  · (intro w hSw; (try dsimp only at hSw); go_simp; try with_reducible rfl)
  simp only [Act.put, List.setIfInBounds_toArray, List.set_cons_zero, List.set_cons_succ]
  refine take_yes 10 37 (v := ?_) rfl rfl (by kernel_rfl) (by kernel_rfl) (by kernel_rfl) (fun _ _ _ h => h) (by rfl) ?_ hHeld ?_
  rotate_left
  · (intro w hSw; (try dsimp only at hSw); go_simp; try with_reducible rfl)
  simp only [Act.put, List.setIfInBounds_toArray, List.set_cons_zero, List.set_cons_succ]
  refine take_yes 11 38 (v := ?_) rfl rfl (by kernel_rfl) (by kernel_rfl) (by kernel_rfl) (fun _ _ _ h => h) (by rfl) ?_ hHeld ?_
  rotate_left
  · (intro w hSw; (try dsimp only at hSw); go_simp; try with_reducible rfl)
  simp only [Act.put, List.setIfInBounds_toArray, List.set_cons_zero, List.set_cons_succ]
  refine take_yes 12 39 (v := ?_) rfl rfl (by kernel_rfl) (by kernel_rfl) (by kernel_rfl) (fun _ _ _ h => h) (by rfl) ?_ hHeld ?_
  rotate_left
  · (intro w hSw; (try dsimp only at hSw); go_simp; try with_reducible rfl)
  simp only [Act.put, List.setIfInBounds_toArray, List.set_cons_zero, List.set_cons_succ]
  refine take_yes 13 40 (v := ?_) rfl rfl (by kernel_rfl) (by kernel_rfl) (by kernel_rfl) (fun _ _ _ h => h) (by rfl) ?_ hHeld ?_
  rotate_left
  · (intro w hSw; (try dsimp only at hSw); go_simp; try with_reducible rfl)
  simp only [Act.put, List.setIfInBounds_toArray, List.set_cons_zero, List.set_cons_succ]
  refine take_yes 14 41 (v := ?_) rfl rfl (by kernel_rfl) (by kernel_rfl) (by kernel_rfl) (fun _ _ _ h => h) (by rfl) ?_ hHeld ?_
  rotate_left
  · (intro w hSw; (try dsimp only at hSw); go_simp; try with_reducible rfl)
  simp only [Act.put, List.setIfInBounds_toArray, List.set_cons_zero, List.set_cons_succ]
  refine take_yes 15 42 (v := ?_) rfl rfl (by kernel_rfl) (by kernel_rfl) (by kernel_rfl) (fun _ _ _ h => h) (by rfl) ?_ hHeld ?_
  rotate_left
  · (intro w hSw; (try dsimp only at hSw); go_simp; try with_reducible rfl)
  simp only [Act.put, List.setIfInBounds_toArray, List.set_cons_zero, List.set_cons_succ]
  refine take_yes 16 43 (v := ?_) rfl rfl (by kernel_rfl) (by kernel_rfl) (by kernel_rfl) (fun _ _ _ h => h) (by rfl) ?_ hHeld ?_
  rotate_left
  · (intro w hSw; (try dsimp only at hSw); go_simp; try with_reducible rfl)
  simp only [Act.put, List.setIfInBounds_toArray, List.set_cons_zero, List.set_cons_succ]
  refine take_yes 17 44 (v := ?_) rfl rfl (by kernel_rfl) (by kernel_rfl) (by kernel_rfl) (fun _ _ _ h => h) (by rfl) ?_ hHeld ?_
  rotate_left
  · (intro w hSw; (try dsimp only at hSw); go_simp; try with_reducible rfl)
  simp only [Act.put, List.setIfInBounds_toArray, List.set_cons_zero, List.set_cons_succ]
  refine wpAnyH_ready (rs := [18]) (by kernel_rfl) (by simp) (AllReadyH.cons rfl (fun K hK => ?_) AllReadyH.nil)
  go_simp
  (go_at_call 95; refine (HU.out _ (Gr.refl w).alloc.drew).mono ?_; rintro e w2 ⟨rfl, hg2⟩; have HG2 := Lib.hid ((Gr.refl w).alloc.drew.trans hg2))
  (try go_wp2_with fail)
  refine hK.out _ _ (by first | with_reducible exact hHeld | with_reducible exact HS.out _ (Gr.refl w).alloc.drew | with_reducible exact HS.out _ HG2.out) (fun hHeldN => ?_)
  clear hHeld hK K
  have hHeld := hHeldN
  clear hHeldN
  refine take_yes 19 46 (v := ?_) rfl rfl (by kernel_rfl) (by kernel_rfl) (by kernel_rfl) (fun _ _ _ h => h) (by rfl) ?_ hHeld ?_
  rotate_left
  · (intro w hSw; (try dsimp only at hSw); go_simp; try with_reducible rfl)
  simp only [Act.put, List.setIfInBounds_toArray, List.set_cons_zero, List.set_cons_succ]
  refine take_yes 20 47 (v := ?_) rfl rfl (by kernel_rfl) (by kernel_rfl) (by kernel_rfl) (fun _ _ _ h => h) (by rfl) ?_ hHeld ?_
  rotate_left
  · (intro w hSw; (try dsimp only at hSw); go_simp; try with_reducible rfl)
  simp only [Act.put, List.setIfInBounds_toArray, List.set_cons_zero, List.set_cons_succ]
  refine take_yes 21 48 (v := ?_) rfl rfl (by kernel_rfl) (by kernel_rfl) (by kernel_rfl) (fun _ _ _ h => h) (by rfl) ?_ hHeld ?_
  rotate_left
  · (intro w hSw; (try dsimp only at hSw); go_simp; try with_reducible rfl)
  simp only [Act.put, List.setIfInBounds_toArray, List.set_cons_zero, List.set_cons_succ]
  refine wpAnyH_done (by kernel_rfl) ?_ _
  clear hHeld
  go_wp2
  go_ret
  exact ⟨rfl, (FaR.refl HD.out).up HG2.out⟩
set_option maxHeartbeats 8000000 in
set_option maxRecDepth 100000 in
theorem append_v4 (h : DAt w b m A s) (n : Int) (d : ByteArray) (hd : s.dead = false) (h1 : ¬ (n < 0 ∨ 1000000 < n)) (hh : Dk.has s.L n = false) (h8 : ¬ 8 ≤ s.L.length) (hf : ¬ s.room < (used s.L : Int) + d.size) (he : d.size = 0) :
    Calls Tryz.prog 74 #[ptr b, .int .i64 n, .string d] w fun e w' => e = .returned (.int .i64 (Dk.appE s n d)) ∧ FaR w w' b m (Dk.appS s n d) := by
  have HP := Lib.hid (power_any h)
  unfold Dk.craE at HP
  rw [hd] at HP
  have HW := Lib.hid (within_any n 0 1000000 w)
  rw [decide_eq_true (show 0 ≤ n ∧ n ≤ 1000000 by omega)] at HW
  have HD := Lib.hid h
  have hr0 := h.ok.r0
  have hr1 := h.ok.r1
  have hfit := h.ok.fits
  have h2 : ¬ ((Dk.has s.L n = false ∧ 8 ≤ s.L.length) ∨ s.room < (used s.L : Int) + d.size) := fun e => e.elim (fun e => h8 e.2) hf
  rw [(app_none hd h1 h2 he).1, (app_none hd h1 h2 he).2]
  have hl := h.ok.len
  have hlook := (h.fl.look (k := n) (by omega) (by omega)).1
  rw [hh] at hlook
  have HU : Hid (∀ w', Gr w w' → Calls Tryz.prog 95 #[ptr b] w' fun e w2 => e = .returned (.int .i64 (used s.L : Int)) ∧ Gr w' w2) := fun w' g => used_any (h.gr g)
  have HS : Hid (∀ w', Gr w w' → w'.cell? ⟨b, 0, none⟩ = some (.map (some m)) ∧ w'.cell? ⟨b, 1, none⟩ = some (.int .i64 s.room) ∧ ∀ ty, (Builtin.len_ #[61] ty #[.map (some m)]).run Tryz.prog w' = .ok (.int .i64 (s.L.length : Int)) w') := fun w' g => ⟨(h.gr g).mp, (h.gr g).rm, fun ty => (h.gr g).fl.len ty⟩
  have hmp := h.mp
  clear h
  have h8b : decide ((8 : Int) ≤ (s.L.length : Int)) = false := decide_eq_false (by omega)
  have hwr : IntKind.i64.wrap (s.room - (used s.L : Int)) = s.room - (used s.L : Int) := wrapI (by omega) (by omega)
  have hfb : decide (s.room - (used s.L : Int) < (d.size : Int)) = false := decide_eq_false (by omega)
  have hemp := emp_any d
  rw [decide_eq_true he] at hemp
  clear he
  generalize hget : Dk.get s.L n = f at *
  generalize hlen : s.L.length = ll at *
  generalize hus : used s.L = us at *
  obtain ⟨fn, fd, fy⟩ := f
  try simp only at *
  go_enter Tryz.func74, Tryz.ntmps74
  go_upto_region 7 with (first
    | (go_at_call 41; refine HP.out.mono ?_; rintro e w' ⟨rfl, hw⟩; obtain rfl := hw.symm; clear hw)
    | (go_at_call 52; refine HW.out.mono ?_; rintro e w' ⟨rfl, hw⟩; obtain rfl := hw.symm; clear hw))
  refine wp_region_held_drew (S := (fun w' => w'.cell? ⟨b, 0, none⟩ = some (.map (some m)) ∧ w'.cell? ⟨b, 1, none⟩ = some (.int .i64 s.room) ∧ ∀ ty, (Builtin.len_ #[61] ty #[.map (some m)]).run Tryz.prog w' = .ok (.int .i64 (ll : Int)) w')) (by kernel_rfl) (by first | with_reducible exact hHeld | with_reducible exact HS.out _ (Gr.refl w).alloc.drew | with_reducible exact HS.out _ HG2.out) (fun hHeld => ?_)
  refine take_yes 0 27 (v := ?_) rfl rfl (by kernel_rfl) (by kernel_rfl) (by kernel_rfl) (fun _ _ _ h => h) (by rfl) ?_ hHeld ?_
  rotate_left
  · (intro w hSw; (try dsimp only at hSw); go_simp; try with_reducible rfl)
  simp only [Act.put, List.setIfInBounds_toArray, List.set_cons_zero, List.set_cons_succ]
  refine take_yes 1 28 (v := ?_) rfl rfl (by kernel_rfl) (by kernel_rfl) (by kernel_rfl) (fun _ _ _ h => h) (by rfl) ?_ hHeld ?_
  rotate_left
  · (intro w hSw; (try dsimp only at hSw); go_simp; try with_reducible rfl)
  simp only [Act.put, List.setIfInBounds_toArray, List.set_cons_zero, List.set_cons_succ]
  refine take_yes 2 29 (v := ?_) rfl rfl (by kernel_rfl) (by kernel_rfl) (by kernel_rfl) (fun _ _ _ h => h) (by rfl) ?_ hHeld ?_
  rotate_left
  · (intro w hSw; (try dsimp only at hSw); go_simp; try with_reducible rfl)
  simp only [Act.put, List.setIfInBounds_toArray, List.set_cons_zero, List.set_cons_succ]
  refine take_yes 3 30 (v := ?_) rfl rfl (by kernel_rfl) (by kernel_rfl) (by kernel_rfl) (fun _ _ _ h => h) (by rfl) ?_ hHeld ?_
  rotate_left
  · (intro w hSw; (try dsimp only at hSw); go_simp; try with_reducible rfl)
  simp only [Act.put, List.setIfInBounds_toArray, List.set_cons_zero, List.set_cons_succ]
  refine take_yes 4 31 (v := ?_) rfl rfl (by kernel_rfl) (by kernel_rfl) (by kernel_rfl) (fun _ _ _ h => h) (by rfl) ?_ hHeld ?_
  rotate_left
  · (intro w hSw; (try dsimp only at hSw); go_simp; try with_reducible rfl)
  simp only [Act.put, List.setIfInBounds_toArray, List.set_cons_zero, List.set_cons_succ]
  refine take_yes 5 32 (v := ?_) rfl rfl (by kernel_rfl) (by kernel_rfl) (by kernel_rfl) (fun _ _ _ h => h) (by rfl) ?_ hHeld ?_
  rotate_left
  · (intro w hSw; (try dsimp only at hSw); go_simp; try with_reducible rfl)
  simp only [Act.put, List.setIfInBounds_toArray, List.set_cons_zero, List.set_cons_succ]
  refine take_yes 6 33 (v := ?_) rfl rfl (by kernel_rfl) (by kernel_rfl) (by kernel_rfl) (fun _ _ _ h => h) (by rfl) ?_ hHeld ?_
  rotate_left
  · (intro w hSw; (try dsimp only at hSw); go_simp; try with_reducible rfl)
  simp only [Act.put, List.setIfInBounds_toArray, List.set_cons_zero, List.set_cons_succ]
  refine take_yes 7 34 (v := ?_) rfl rfl (by kernel_rfl) (by kernel_rfl) (by kernel_rfl) (fun _ _ _ h => h) (by rfl) ?_ hHeld ?_
  rotate_left
  · (intro w hSw; (try dsimp only at hSw); go_simp; try with_reducible rfl)
  simp only [Act.put, List.setIfInBounds_toArray, List.set_cons_zero, List.set_cons_succ]
  refine take_yes 8 35 (v := ?_) rfl rfl (by kernel_rfl) (by kernel_rfl) (by kernel_rfl) (fun _ _ _ h => h) (by rfl) ?_ hHeld ?_
  rotate_left
  · (intro w hSw; (try dsimp only at hSw); go_simp; try with_reducible rfl)
  simp only [Act.put, List.setIfInBounds_toArray, List.set_cons_zero, List.set_cons_succ]
  refine take_yes 9 36 (v := ?_) rfl rfl (by kernel_rfl) (by kernel_rfl) (by kernel_rfl) (fun _ _ _ h => h) (by rfl) ?_ hHeld ?_
  rotate_left
  · (intro w hSw; (try dsimp only at hSw); go_simp; try with_reducible rfl)
  simp only [Act.put, List.setIfInBounds_toArray, List.set_cons_zero, List.set_cons_succ]
  refine take_yes 10 37 (v := ?_) rfl rfl (by kernel_rfl) (by kernel_rfl) (by kernel_rfl) (fun _ _ _ h => h) (by rfl) ?_ hHeld ?_
  rotate_left
  · (intro w hSw; (try dsimp only at hSw); go_simp; try with_reducible rfl)
  simp only [Act.put, List.setIfInBounds_toArray, List.set_cons_zero, List.set_cons_succ]
  refine take_yes 11 38 (v := ?_) rfl rfl (by kernel_rfl) (by kernel_rfl) (by kernel_rfl) (fun _ _ _ h => h) (by rfl) ?_ hHeld ?_
  rotate_left
  · (intro w hSw; (try dsimp only at hSw); go_simp; try with_reducible rfl)
  simp only [Act.put, List.setIfInBounds_toArray, List.set_cons_zero, List.set_cons_succ]
  refine take_yes 12 39 (v := ?_) rfl rfl (by kernel_rfl) (by kernel_rfl) (by kernel_rfl) (fun _ _ _ h => h) (by rfl) ?_ hHeld ?_
  rotate_left
  · (intro w hSw; (try dsimp only at hSw); go_simp; try with_reducible rfl)
  simp only [Act.put, List.setIfInBounds_toArray, List.set_cons_zero, List.set_cons_succ]
  refine take_yes 13 40 (v := ?_) rfl rfl (by kernel_rfl) (by kernel_rfl) (by kernel_rfl) (fun _ _ _ h => h) (by rfl) ?_ hHeld ?_
  rotate_left
  · (intro w hSw; (try dsimp only at hSw); go_simp; try with_reducible rfl)
  simp only [Act.put, List.setIfInBounds_toArray, List.set_cons_zero, List.set_cons_succ]
  refine take_yes 14 41 (v := ?_) rfl rfl (by kernel_rfl) (by kernel_rfl) (by kernel_rfl) (fun _ _ _ h => h) (by rfl) ?_ hHeld ?_
  rotate_left
  · (intro w hSw; (try dsimp only at hSw); go_simp; try with_reducible rfl)
  simp only [Act.put, List.setIfInBounds_toArray, List.set_cons_zero, List.set_cons_succ]
  refine take_yes 15 42 (v := ?_) rfl rfl (by kernel_rfl) (by kernel_rfl) (by kernel_rfl) (fun _ _ _ h => h) (by rfl) ?_ hHeld ?_
  rotate_left
  · (intro w hSw; (try dsimp only at hSw); go_simp; try with_reducible rfl)
  simp only [Act.put, List.setIfInBounds_toArray, List.set_cons_zero, List.set_cons_succ]
  refine take_yes 16 43 (v := ?_) rfl rfl (by kernel_rfl) (by kernel_rfl) (by kernel_rfl) (fun _ _ _ h => h) (by rfl) ?_ hHeld ?_
  rotate_left
  · (intro w hSw; (try dsimp only at hSw); go_simp; try with_reducible rfl)
  simp only [Act.put, List.setIfInBounds_toArray, List.set_cons_zero, List.set_cons_succ]
  refine take_yes 17 44 (v := ?_) rfl rfl (by kernel_rfl) (by kernel_rfl) (by kernel_rfl) (fun _ _ _ h => h) (by rfl) ?_ hHeld ?_
  rotate_left
  · (intro w hSw; (try dsimp only at hSw); go_simp; try with_reducible rfl)
  simp only [Act.put, List.setIfInBounds_toArray, List.set_cons_zero, List.set_cons_succ]
  refine wpAnyH_ready (rs := [18]) (by kernel_rfl) (by simp) (AllReadyH.cons rfl (fun K hK => ?_) AllReadyH.nil)
  go_simp
  (go_at_call 95; refine (HU.out _ (Gr.refl w).alloc.drew).mono ?_; rintro e w2 ⟨rfl, hg2⟩; have HG2 := Lib.hid ((Gr.refl w).alloc.drew.trans hg2))
  (try go_wp2_with fail)
  refine hK.out _ _ (by first | with_reducible exact hHeld | with_reducible exact HS.out _ (Gr.refl w).alloc.drew | with_reducible exact HS.out _ HG2.out) (fun hHeldN => ?_)
  clear hHeld hK K
  have hHeld := hHeldN
  clear hHeldN
  refine take_yes 19 46 (v := ?_) rfl rfl (by kernel_rfl) (by kernel_rfl) (by kernel_rfl) (fun _ _ _ h => h) (by rfl) ?_ hHeld ?_
  rotate_left
  · (intro w hSw; (try dsimp only at hSw); go_simp; try with_reducible rfl)
  simp only [Act.put, List.setIfInBounds_toArray, List.set_cons_zero, List.set_cons_succ]
  refine take_yes 20 47 (v := ?_) rfl rfl (by kernel_rfl) (by kernel_rfl) (by kernel_rfl) (fun _ _ _ h => h) (by rfl) ?_ hHeld ?_
  rotate_left
  · (intro w hSw; (try dsimp only at hSw); go_simp; try with_reducible rfl)
  simp only [Act.put, List.setIfInBounds_toArray, List.set_cons_zero, List.set_cons_succ]
  refine take_yes 21 48 (v := ?_) rfl rfl (by kernel_rfl) (by kernel_rfl) (by kernel_rfl) (fun _ _ _ h => h) (by rfl) ?_ hHeld ?_
  rotate_left
  · (intro w hSw; (try dsimp only at hSw); go_simp; try with_reducible rfl)
  simp only [Act.put, List.setIfInBounds_toArray, List.set_cons_zero, List.set_cons_succ]
  refine wpAnyH_done (by kernel_rfl) ?_ _
  clear hHeld
  have B2 := ((BoxAt.new w (.int .i64 fn) (.string fd) (.int .i64 fy) 24 _ rfl).gr (Gr.refl _).drew).gr hg2
  clear hg2 HU HS
  go_wp2
  go_ret
  exact ⟨rfl, (FaR.refl HD.out).up HG2.out⟩
set_option maxHeartbeats 8000000 in
set_option maxRecDepth 100000 in
theorem append_v5 (h : DAt w b m A s) (n : Int) (d : ByteArray) (hd : s.dead = false) (h1 : ¬ (n < 0 ∨ 1000000 < n)) (hh : Dk.has s.L n = true) (hf : ¬ s.room < (used s.L : Int) + d.size) (he : d.size = 0) :
    Calls Tryz.prog 74 #[ptr b, .int .i64 n, .string d] w fun e w' => e = .returned (.int .i64 (Dk.appE s n d)) ∧ FaR w w' b m (Dk.appS s n d) := by
  have HP := Lib.hid (power_any h)
  unfold Dk.craE at HP
  rw [hd] at HP
  have HW := Lib.hid (within_any n 0 1000000 w)
  rw [decide_eq_true (show 0 ≤ n ∧ n ≤ 1000000 by omega)] at HW
  have HD := Lib.hid h
  have hr0 := h.ok.r0
  have hr1 := h.ok.r1
  have hfit := h.ok.fits
  have h2 : ¬ ((Dk.has s.L n = false ∧ 8 ≤ s.L.length) ∨ s.room < (used s.L : Int) + d.size) := fun e => e.elim (fun e => by rw [hh] at e; cases e.1) hf
  rw [(app_none hd h1 h2 he).1, (app_none hd h1 h2 he).2]
  have hl := h.ok.len
  have hlook := (h.fl.look (k := n) (by omega) (by omega)).1
  rw [hh] at hlook
  have HU : Hid (∀ w', Gr w w' → Calls Tryz.prog 95 #[ptr b] w' fun e w2 => e = .returned (.int .i64 (used s.L : Int)) ∧ Gr w' w2) := fun w' g => used_any (h.gr g)
  have HS : Hid (∀ w', Gr w w' → w'.cell? ⟨b, 0, none⟩ = some (.map (some m)) ∧ w'.cell? ⟨b, 1, none⟩ = some (.int .i64 s.room) ∧ ∀ ty, (Builtin.len_ #[61] ty #[.map (some m)]).run Tryz.prog w' = .ok (.int .i64 (s.L.length : Int)) w') := fun w' g => ⟨(h.gr g).mp, (h.gr g).rm, fun ty => (h.gr g).fl.len ty⟩
  have hmp := h.mp
  clear h
  have hwr : IntKind.i64.wrap (s.room - (used s.L : Int)) = s.room - (used s.L : Int) := wrapI (by omega) (by omega)
  have hfb : decide (s.room - (used s.L : Int) < (d.size : Int)) = false := decide_eq_false (by omega)
  have hemp := emp_any d
  rw [decide_eq_true he] at hemp
  clear he
  generalize hget : Dk.get s.L n = f at *
  generalize hlen : s.L.length = ll at *
  generalize hus : used s.L = us at *
  obtain ⟨fn, fd, fy⟩ := f
  try simp only at *
  go_enter Tryz.func74, Tryz.ntmps74
  go_upto_region 7 with (first
    | (go_at_call 41; refine HP.out.mono ?_; rintro e w' ⟨rfl, hw⟩; obtain rfl := hw.symm; clear hw)
    | (go_at_call 52; refine HW.out.mono ?_; rintro e w' ⟨rfl, hw⟩; obtain rfl := hw.symm; clear hw))
  refine wp_region_held_drew (S := (fun w' => w'.cell? ⟨b, 0, none⟩ = some (.map (some m)) ∧ w'.cell? ⟨b, 1, none⟩ = some (.int .i64 s.room) ∧ ∀ ty, (Builtin.len_ #[61] ty #[.map (some m)]).run Tryz.prog w' = .ok (.int .i64 (ll : Int)) w')) (by kernel_rfl) (by first | with_reducible exact hHeld | with_reducible exact HS.out _ (Gr.refl w).alloc.drew | with_reducible exact HS.out _ HG2.out) (fun hHeld => ?_)
  refine take_yes 0 27 (v := ?_) rfl rfl (by kernel_rfl) (by kernel_rfl) (by kernel_rfl) (fun _ _ _ h => h) (by rfl) ?_ hHeld ?_
  rotate_left
  · (intro w hSw; (try dsimp only at hSw); go_simp; try with_reducible rfl)
  simp only [Act.put, List.setIfInBounds_toArray, List.set_cons_zero, List.set_cons_succ]
  refine take_yes 1 28 (v := ?_) rfl rfl (by kernel_rfl) (by kernel_rfl) (by kernel_rfl) (fun _ _ _ h => h) (by rfl) ?_ hHeld ?_
  rotate_left
  · (intro w hSw; (try dsimp only at hSw); go_simp; try with_reducible rfl)
  simp only [Act.put, List.setIfInBounds_toArray, List.set_cons_zero, List.set_cons_succ]
  refine take_yes 2 29 (v := ?_) rfl rfl (by kernel_rfl) (by kernel_rfl) (by kernel_rfl) (fun _ _ _ h => h) (by rfl) ?_ hHeld ?_
  rotate_left
  · (intro w hSw; (try dsimp only at hSw); go_simp; try with_reducible rfl)
  simp only [Act.put, List.setIfInBounds_toArray, List.set_cons_zero, List.set_cons_succ]
  refine take_not 3 30 rfl rfl (by kernel_rfl) (by kernel_rfl) (by kernel_rfl) (fun _ _ _ h => h) (by rfl) hHeld ?_
  simp only [Act.put, List.setIfInBounds_toArray, List.set_cons_zero, List.set_cons_succ]
  refine take_not 4 31 rfl rfl (by kernel_rfl) (by kernel_rfl) (by kernel_rfl) (fun _ _ _ h => h) (by rfl) hHeld ?_
  simp only [Act.put, List.setIfInBounds_toArray, List.set_cons_zero, List.set_cons_succ]
  refine take_not 5 32 rfl rfl (by kernel_rfl) (by kernel_rfl) (by kernel_rfl) (fun _ _ _ h => h) (by rfl) hHeld ?_
  simp only [Act.put, List.setIfInBounds_toArray, List.set_cons_zero, List.set_cons_succ]
  refine take_not 6 33 rfl rfl (by kernel_rfl) (by kernel_rfl) (by kernel_rfl) (fun _ _ _ h => h) (by rfl) hHeld ?_
  simp only [Act.put, List.setIfInBounds_toArray, List.set_cons_zero, List.set_cons_succ]
  refine take_not 7 34 rfl rfl (by kernel_rfl) (by kernel_rfl) (by kernel_rfl) (fun _ _ _ h => h) (by rfl) hHeld ?_
  simp only [Act.put, List.setIfInBounds_toArray, List.set_cons_zero, List.set_cons_succ]
  refine take_not 8 35 rfl rfl (by kernel_rfl) (by kernel_rfl) (by kernel_rfl) (fun _ _ _ h => h) (by rfl) hHeld ?_
  simp only [Act.put, List.setIfInBounds_toArray, List.set_cons_zero, List.set_cons_succ]
  refine take_yes 9 36 (v := ?_) rfl rfl (by kernel_rfl) (by kernel_rfl) (by kernel_rfl) (fun _ _ _ h => h) (by rfl) ?_ hHeld ?_
  rotate_left
  · (intro w hSw; (try dsimp only at hSw); go_simp; try with_reducible rfl)
  simp only [Act.put, List.setIfInBounds_toArray, List.set_cons_zero, List.set_cons_succ]
  refine take_yes 10 37 (v := ?_) rfl rfl (by kernel_rfl) (by kernel_rfl) (by kernel_rfl) (fun _ _ _ h => h) (by rfl) ?_ hHeld ?_
  rotate_left
  · (intro w hSw; (try dsimp only at hSw); go_simp; try with_reducible rfl)
  simp only [Act.put, List.setIfInBounds_toArray, List.set_cons_zero, List.set_cons_succ]
  refine take_yes 11 38 (v := ?_) rfl rfl (by kernel_rfl) (by kernel_rfl) (by kernel_rfl) (fun _ _ _ h => h) (by rfl) ?_ hHeld ?_
  rotate_left
  · (intro w hSw; (try dsimp only at hSw); go_simp; try with_reducible rfl)
  simp only [Act.put, List.setIfInBounds_toArray, List.set_cons_zero, List.set_cons_succ]
  refine take_yes 12 39 (v := ?_) rfl rfl (by kernel_rfl) (by kernel_rfl) (by kernel_rfl) (fun _ _ _ h => h) (by rfl) ?_ hHeld ?_
  rotate_left
  · (intro w hSw; (try dsimp only at hSw); go_simp; try with_reducible rfl)
  simp only [Act.put, List.setIfInBounds_toArray, List.set_cons_zero, List.set_cons_succ]
  refine take_yes 13 40 (v := ?_) rfl rfl (by kernel_rfl) (by kernel_rfl) (by kernel_rfl) (fun _ _ _ h => h) (by rfl) ?_ hHeld ?_
  rotate_left
  · (intro w hSw; (try dsimp only at hSw); go_simp; try with_reducible rfl)
  simp only [Act.put, List.setIfInBounds_toArray, List.set_cons_zero, List.set_cons_succ]
  refine take_yes 14 41 (v := ?_) rfl rfl (by kernel_rfl) (by kernel_rfl) (by kernel_rfl) (fun _ _ _ h => h) (by rfl) ?_ hHeld ?_
  rotate_left
  · (intro w hSw; (try dsimp only at hSw); go_simp; try with_reducible rfl)
  simp only [Act.put, List.setIfInBounds_toArray, List.set_cons_zero, List.set_cons_succ]
  refine take_yes 15 42 (v := ?_) rfl rfl (by kernel_rfl) (by kernel_rfl) (by kernel_rfl) (fun _ _ _ h => h) (by rfl) ?_ hHeld ?_
  rotate_left
  · (intro w hSw; (try dsimp only at hSw); go_simp; try with_reducible rfl)
  simp only [Act.put, List.setIfInBounds_toArray, List.set_cons_zero, List.set_cons_succ]
  refine take_yes 16 43 (v := ?_) rfl rfl (by kernel_rfl) (by kernel_rfl) (by kernel_rfl) (fun _ _ _ h => h) (by rfl) ?_ hHeld ?_
  rotate_left
  · (intro w hSw; (try dsimp only at hSw); go_simp; try with_reducible rfl)
  simp only [Act.put, List.setIfInBounds_toArray, List.set_cons_zero, List.set_cons_succ]
  refine take_yes 17 44 (v := ?_) rfl rfl (by kernel_rfl) (by kernel_rfl) (by kernel_rfl) (fun _ _ _ h => h) (by rfl) ?_ hHeld ?_
  rotate_left
  · (intro w hSw; (try dsimp only at hSw); go_simp; try with_reducible rfl)
  simp only [Act.put, List.setIfInBounds_toArray, List.set_cons_zero, List.set_cons_succ]
  refine wpAnyH_ready (rs := [18]) (by kernel_rfl) (by simp) (AllReadyH.cons rfl (fun K hK => ?_) AllReadyH.nil)
  go_simp
  (go_at_call 95; refine (HU.out _ (Gr.refl w).alloc.drew).mono ?_; rintro e w2 ⟨rfl, hg2⟩; have HG2 := Lib.hid ((Gr.refl w).alloc.drew.trans hg2))
  (try go_wp2_with fail)
  refine hK.out _ _ (by first | with_reducible exact hHeld | with_reducible exact HS.out _ (Gr.refl w).alloc.drew | with_reducible exact HS.out _ HG2.out) (fun hHeldN => ?_)
  clear hHeld hK K
  have hHeld := hHeldN
  clear hHeldN
  refine take_yes 19 46 (v := ?_) rfl rfl (by kernel_rfl) (by kernel_rfl) (by kernel_rfl) (fun _ _ _ h => h) (by rfl) ?_ hHeld ?_
  rotate_left
  · (intro w hSw; (try dsimp only at hSw); go_simp; try with_reducible rfl)
  simp only [Act.put, List.setIfInBounds_toArray, List.set_cons_zero, List.set_cons_succ]
  refine take_yes 20 47 (v := ?_) rfl rfl (by kernel_rfl) (by kernel_rfl) (by kernel_rfl) (fun _ _ _ h => h) (by rfl) ?_ hHeld ?_
  rotate_left
  · (intro w hSw; (try dsimp only at hSw); go_simp; try with_reducible rfl)
  simp only [Act.put, List.setIfInBounds_toArray, List.set_cons_zero, List.set_cons_succ]
  refine take_yes 21 48 (v := ?_) rfl rfl (by kernel_rfl) (by kernel_rfl) (by kernel_rfl) (fun _ _ _ h => h) (by rfl) ?_ hHeld ?_
  rotate_left
  · (intro w hSw; (try dsimp only at hSw); go_simp; try with_reducible rfl)
  simp only [Act.put, List.setIfInBounds_toArray, List.set_cons_zero, List.set_cons_succ]
  refine wpAnyH_done (by kernel_rfl) ?_ _
  clear hHeld
  have B2 := ((BoxAt.new w (.int .i64 fn) (.string fd) (.int .i64 fy) 24 _ rfl).gr (Gr.refl _).drew).gr hg2
  clear hg2 HU HS
  go_wp2
  go_ret
  exact ⟨rfl, (FaR.refl HD.out).up HG2.out⟩
set_option maxHeartbeats 8000000 in
set_option maxRecDepth 100000 in
theorem append_v6 (h : DAt w b m A s) (n : Int) (d : ByteArray) (hd : s.dead = false) (h1 : ¬ (n < 0 ∨ 1000000 < n)) (hh : Dk.has s.L n = false) (h8 : ¬ 8 ≤ s.L.length) (hf : ¬ s.room < (used s.L : Int) + d.size) (he : ¬ d.size = 0) :
    Calls Tryz.prog 74 #[ptr b, .int .i64 n, .string d] w fun e w' => e = .returned (.int .i64 (Dk.appE s n d)) ∧ FaR w w' b m (Dk.appS s n d) := by
  have HP := Lib.hid (power_any h)
  unfold Dk.craE at HP
  rw [hd] at HP
  have HW := Lib.hid (within_any n 0 1000000 w)
  rw [decide_eq_true (show 0 ≤ n ∧ n ≤ 1000000 by omega)] at HW
  have HD := Lib.hid h
  have hr0 := h.ok.r0
  have hr1 := h.ok.r1
  have hfit := h.ok.fits
  have h2 : ¬ ((Dk.has s.L n = false ∧ 8 ≤ s.L.length) ∨ s.room < (used s.L : Int) + d.size) := fun e => e.elim (fun e => h8 e.2) hf
  rw [(app_go hd h1 h2 he).1, (app_go hd h1 h2 he).2]
  obtain ⟨hfo, hok⟩ := h.ok.ext h1 h2 he
  have HPt : Hid (∀ w', Gr w w' → Calls Tryz.prog 26 #[ptr b, .agg #[.int .i64 n, .string ((Dk.get s.L n).d ++ d), .int .i64 (Dk.get s.L n).y]] w' fun e w2 => e = .returned (.tuple #[]) ∧ DAt w2 b m A { s with L := Dk.ins (Dk.ext s.L n d) s.L } ∧ Td w w2 b m) := by
    intro w' g
    refine (put_ins (f := Dk.ext s.L n d) (h.gr g) hfo.emp (by show _ ≤ n; omega) (by show n ≤ _; omega) hok).mono ?_
    rintro e w2 ⟨rfl, q1, q2⟩
    exact ⟨rfl, q1, (Td.gr g).trans q2⟩
  have HCn : Hid (∀ w', DAt w' b m A { s with L := Dk.ins (Dk.ext s.L n d) s.L } → Calls Tryz.prog 96 #[ptr b] w' fun e w2 => e = .returned (.int .i64 (Dk.cntE s)) ∧ FaR w' w2 b m (Dk.cntS { s with L := Dk.ins (Dk.ext s.L n d) s.L })) := fun w' hw' => count_any hw'
  have hcat := cat_run (Dk.get s.L n).d d (by
    have := hfo.d1
    have h6 := Dk.used_ins (Dk.ext s.L n d) s.L h.ok.up
    have h7 : (Dk.ext s.L n d).d.size = (Dk.get s.L n).d.size + d.size := by simp [Dk.ext]
    have h8 := hok.fits
    have h9 : (Dk.ext s.L n d).d.size ≤ used (Dk.ins (Dk.ext s.L n d) s.L) := by
      have h10 := Dk.used_del hok.up (Dk.has_of (Dk.self_ins (Dk.ext s.L n d) s.L))
      have h11 := Dk.get_ins (Dk.ext s.L n d) h.ok.up
      simp only at h10
      rw [h11] at h10
      omega
    simp only at h8
    omega)
  have HCl : Hid (∀ w', Calls Tryz.prog 31 #[.string d] w' fun e w2 => e = .returned (.string d) ∧ Gr w' w2) := fun w' => clone_any d w' (by omega)
  have hl := h.ok.len
  have hlook := (h.fl.look (k := n) (by omega) (by omega)).1
  rw [hh] at hlook
  have HU : Hid (∀ w', Gr w w' → Calls Tryz.prog 95 #[ptr b] w' fun e w2 => e = .returned (.int .i64 (used s.L : Int)) ∧ Gr w' w2) := fun w' g => used_any (h.gr g)
  have HS : Hid (∀ w', Gr w w' → w'.cell? ⟨b, 0, none⟩ = some (.map (some m)) ∧ w'.cell? ⟨b, 1, none⟩ = some (.int .i64 s.room) ∧ ∀ ty, (Builtin.len_ #[61] ty #[.map (some m)]).run Tryz.prog w' = .ok (.int .i64 (s.L.length : Int)) w') := fun w' g => ⟨(h.gr g).mp, (h.gr g).rm, fun ty => (h.gr g).fl.len ty⟩
  have hmp := h.mp
  clear h
  have h8b : decide ((8 : Int) ≤ (s.L.length : Int)) = false := decide_eq_false (by omega)
  have hwr : IntKind.i64.wrap (s.room - (used s.L : Int)) = s.room - (used s.L : Int) := wrapI (by omega) (by omega)
  have hfb : decide (s.room - (used s.L : Int) < (d.size : Int)) = false := decide_eq_false (by omega)
  have hemp := emp_any d
  rw [decide_eq_false he] at hemp
  clear he
  generalize hget : Dk.get s.L n = f at *
  generalize hlen : s.L.length = ll at *
  generalize hus : used s.L = us at *
  obtain ⟨fn, fd, fy⟩ := f
  try simp only at *
  go_enter Tryz.func74, Tryz.ntmps74
  go_upto_region 7 with (first
    | (go_at_call 41; refine HP.out.mono ?_; rintro e w' ⟨rfl, hw⟩; obtain rfl := hw.symm; clear hw)
    | (go_at_call 52; refine HW.out.mono ?_; rintro e w' ⟨rfl, hw⟩; obtain rfl := hw.symm; clear hw))
  refine wp_region_held_drew (S := (fun w' => w'.cell? ⟨b, 0, none⟩ = some (.map (some m)) ∧ w'.cell? ⟨b, 1, none⟩ = some (.int .i64 s.room) ∧ ∀ ty, (Builtin.len_ #[61] ty #[.map (some m)]).run Tryz.prog w' = .ok (.int .i64 (ll : Int)) w')) (by kernel_rfl) (by first | with_reducible exact hHeld | with_reducible exact HS.out _ (Gr.refl w).alloc.drew | with_reducible exact HS.out _ HG2.out) (fun hHeld => ?_)
  refine take_yes 0 27 (v := ?_) rfl rfl (by kernel_rfl) (by kernel_rfl) (by kernel_rfl) (fun _ _ _ h => h) (by rfl) ?_ hHeld ?_
  rotate_left
  · (intro w hSw; (try dsimp only at hSw); go_simp; try with_reducible rfl)
  simp only [Act.put, List.setIfInBounds_toArray, List.set_cons_zero, List.set_cons_succ]
  refine take_yes 1 28 (v := ?_) rfl rfl (by kernel_rfl) (by kernel_rfl) (by kernel_rfl) (fun _ _ _ h => h) (by rfl) ?_ hHeld ?_
  rotate_left
  · (intro w hSw; (try dsimp only at hSw); go_simp; try with_reducible rfl)
  simp only [Act.put, List.setIfInBounds_toArray, List.set_cons_zero, List.set_cons_succ]
  refine take_yes 2 29 (v := ?_) rfl rfl (by kernel_rfl) (by kernel_rfl) (by kernel_rfl) (fun _ _ _ h => h) (by rfl) ?_ hHeld ?_
  rotate_left
  · (intro w hSw; (try dsimp only at hSw); go_simp; try with_reducible rfl)
  simp only [Act.put, List.setIfInBounds_toArray, List.set_cons_zero, List.set_cons_succ]
  refine take_yes 3 30 (v := ?_) rfl rfl (by kernel_rfl) (by kernel_rfl) (by kernel_rfl) (fun _ _ _ h => h) (by rfl) ?_ hHeld ?_
  rotate_left
  · (intro w hSw; (try dsimp only at hSw); go_simp; try with_reducible rfl)
  simp only [Act.put, List.setIfInBounds_toArray, List.set_cons_zero, List.set_cons_succ]
  refine take_yes 4 31 (v := ?_) rfl rfl (by kernel_rfl) (by kernel_rfl) (by kernel_rfl) (fun _ _ _ h => h) (by rfl) ?_ hHeld ?_
  rotate_left
  · (intro w hSw; (try dsimp only at hSw); go_simp; try with_reducible rfl)
  simp only [Act.put, List.setIfInBounds_toArray, List.set_cons_zero, List.set_cons_succ]
  refine take_yes 5 32 (v := ?_) rfl rfl (by kernel_rfl) (by kernel_rfl) (by kernel_rfl) (fun _ _ _ h => h) (by rfl) ?_ hHeld ?_
  rotate_left
  · (intro w hSw; (try dsimp only at hSw); go_simp; try with_reducible rfl)
  simp only [Act.put, List.setIfInBounds_toArray, List.set_cons_zero, List.set_cons_succ]
  refine take_yes 6 33 (v := ?_) rfl rfl (by kernel_rfl) (by kernel_rfl) (by kernel_rfl) (fun _ _ _ h => h) (by rfl) ?_ hHeld ?_
  rotate_left
  · (intro w hSw; (try dsimp only at hSw); go_simp; try with_reducible rfl)
  simp only [Act.put, List.setIfInBounds_toArray, List.set_cons_zero, List.set_cons_succ]
  refine take_yes 7 34 (v := ?_) rfl rfl (by kernel_rfl) (by kernel_rfl) (by kernel_rfl) (fun _ _ _ h => h) (by rfl) ?_ hHeld ?_
  rotate_left
  · (intro w hSw; (try dsimp only at hSw); go_simp; try with_reducible rfl)
  simp only [Act.put, List.setIfInBounds_toArray, List.set_cons_zero, List.set_cons_succ]
  refine take_yes 8 35 (v := ?_) rfl rfl (by kernel_rfl) (by kernel_rfl) (by kernel_rfl) (fun _ _ _ h => h) (by rfl) ?_ hHeld ?_
  rotate_left
  · (intro w hSw; (try dsimp only at hSw); go_simp; try with_reducible rfl)
  simp only [Act.put, List.setIfInBounds_toArray, List.set_cons_zero, List.set_cons_succ]
  refine take_yes 9 36 (v := ?_) rfl rfl (by kernel_rfl) (by kernel_rfl) (by kernel_rfl) (fun _ _ _ h => h) (by rfl) ?_ hHeld ?_
  rotate_left
  · (intro w hSw; (try dsimp only at hSw); go_simp; try with_reducible rfl)
  simp only [Act.put, List.setIfInBounds_toArray, List.set_cons_zero, List.set_cons_succ]
  refine take_yes 10 37 (v := ?_) rfl rfl (by kernel_rfl) (by kernel_rfl) (by kernel_rfl) (fun _ _ _ h => h) (by rfl) ?_ hHeld ?_
  rotate_left
  · (intro w hSw; (try dsimp only at hSw); go_simp; try with_reducible rfl)
  simp only [Act.put, List.setIfInBounds_toArray, List.set_cons_zero, List.set_cons_succ]
  refine take_yes 11 38 (v := ?_) rfl rfl (by kernel_rfl) (by kernel_rfl) (by kernel_rfl) (fun _ _ _ h => h) (by rfl) ?_ hHeld ?_
  rotate_left
  · (intro w hSw; (try dsimp only at hSw); go_simp; try with_reducible rfl)
  simp only [Act.put, List.setIfInBounds_toArray, List.set_cons_zero, List.set_cons_succ]
  refine take_yes 12 39 (v := ?_) rfl rfl (by kernel_rfl) (by kernel_rfl) (by kernel_rfl) (fun _ _ _ h => h) (by rfl) ?_ hHeld ?_
  rotate_left
  · (intro w hSw; (try dsimp only at hSw); go_simp; try with_reducible rfl)
  simp only [Act.put, List.setIfInBounds_toArray, List.set_cons_zero, List.set_cons_succ]
  refine take_yes 13 40 (v := ?_) rfl rfl (by kernel_rfl) (by kernel_rfl) (by kernel_rfl) (fun _ _ _ h => h) (by rfl) ?_ hHeld ?_
  rotate_left
  · (intro w hSw; (try dsimp only at hSw); go_simp; try with_reducible rfl)
  simp only [Act.put, List.setIfInBounds_toArray, List.set_cons_zero, List.set_cons_succ]
  refine take_yes 14 41 (v := ?_) rfl rfl (by kernel_rfl) (by kernel_rfl) (by kernel_rfl) (fun _ _ _ h => h) (by rfl) ?_ hHeld ?_
  rotate_left
  · (intro w hSw; (try dsimp only at hSw); go_simp; try with_reducible rfl)
  simp only [Act.put, List.setIfInBounds_toArray, List.set_cons_zero, List.set_cons_succ]
  refine take_yes 15 42 (v := ?_) rfl rfl (by kernel_rfl) (by kernel_rfl) (by kernel_rfl) (fun _ _ _ h => h) (by rfl) ?_ hHeld ?_
  rotate_left
  · (intro w hSw; (try dsimp only at hSw); go_simp; try with_reducible rfl)
  simp only [Act.put, List.setIfInBounds_toArray, List.set_cons_zero, List.set_cons_succ]
  refine take_yes 16 43 (v := ?_) rfl rfl (by kernel_rfl) (by kernel_rfl) (by kernel_rfl) (fun _ _ _ h => h) (by rfl) ?_ hHeld ?_
  rotate_left
  · (intro w hSw; (try dsimp only at hSw); go_simp; try with_reducible rfl)
  simp only [Act.put, List.setIfInBounds_toArray, List.set_cons_zero, List.set_cons_succ]
  refine take_yes 17 44 (v := ?_) rfl rfl (by kernel_rfl) (by kernel_rfl) (by kernel_rfl) (fun _ _ _ h => h) (by rfl) ?_ hHeld ?_
  rotate_left
  · (intro w hSw; (try dsimp only at hSw); go_simp; try with_reducible rfl)
  simp only [Act.put, List.setIfInBounds_toArray, List.set_cons_zero, List.set_cons_succ]
  refine wpAnyH_ready (rs := [18]) (by kernel_rfl) (by simp) (AllReadyH.cons rfl (fun K hK => ?_) AllReadyH.nil)
  go_simp
  (go_at_call 95; refine (HU.out _ (Gr.refl w).alloc.drew).mono ?_; rintro e w2 ⟨rfl, hg2⟩; have HG2 := Lib.hid ((Gr.refl w).alloc.drew.trans hg2))
  (try go_wp2_with fail)
  refine hK.out _ _ (by first | with_reducible exact hHeld | with_reducible exact HS.out _ (Gr.refl w).alloc.drew | with_reducible exact HS.out _ HG2.out) (fun hHeldN => ?_)
  clear hHeld hK K
  have hHeld := hHeldN
  clear hHeldN
  refine take_yes 19 46 (v := ?_) rfl rfl (by kernel_rfl) (by kernel_rfl) (by kernel_rfl) (fun _ _ _ h => h) (by rfl) ?_ hHeld ?_
  rotate_left
  · (intro w hSw; (try dsimp only at hSw); go_simp; try with_reducible rfl)
  simp only [Act.put, List.setIfInBounds_toArray, List.set_cons_zero, List.set_cons_succ]
  refine take_yes 20 47 (v := ?_) rfl rfl (by kernel_rfl) (by kernel_rfl) (by kernel_rfl) (fun _ _ _ h => h) (by rfl) ?_ hHeld ?_
  rotate_left
  · (intro w hSw; (try dsimp only at hSw); go_simp; try with_reducible rfl)
  simp only [Act.put, List.setIfInBounds_toArray, List.set_cons_zero, List.set_cons_succ]
  refine take_yes 21 48 (v := ?_) rfl rfl (by kernel_rfl) (by kernel_rfl) (by kernel_rfl) (fun _ _ _ h => h) (by rfl) ?_ hHeld ?_
  rotate_left
  · (intro w hSw; (try dsimp only at hSw); go_simp; try with_reducible rfl)
  simp only [Act.put, List.setIfInBounds_toArray, List.set_cons_zero, List.set_cons_succ]
  refine wpAnyH_done (by kernel_rfl) ?_ _
  clear hHeld
  have B2 := ((BoxAt.new w (.int .i64 fn) (.string fd) (.int .i64 fy) 24 _ rfl).gr (Gr.refl _).drew).gr hg2
  clear hg2 HU HS
  obtain ⟨c0, c1, c2, f0, f1, f2, lt2⟩ := B2
  have c1s : (w2.setCell ⟨w.heap.size, 0, none⟩ (.int .i64 n)).drew.cell? ⟨w.heap.size, 1, none⟩ = some (.string fd) := by simp [go_sem, *]
  go_upto_region 12 with fail
  refine beginL 6 (fun w' => w'.cell? ⟨w.heap.size, 1, none⟩ = some (.string fd)) (by kernel_rfl) (by first | with_reducible exact hHeld | with_reducible exact c1s | with_reducible exact c1b) (fun hHeld => ?_)
  refine takeW 0 53 (v := ?_) rfl rfl (by decide) (by kernel_rfl) (by kernel_rfl) (by kernel_rfl) (fun _ _ _ h => h) (by rfl) ?_ (fun _ => hHeld) ?_
  rotate_left
  · (intro w; (try intro hSw); (try dsimp only at hSw); go_simp; try with_reducible rfl)
  simp only [Act.put, List.setIfInBounds_toArray, List.set_cons_zero, List.set_cons_succ]
  refine takeW 2 55 (v := ?_) rfl rfl (by decide) (by kernel_rfl) (by kernel_rfl) (by kernel_rfl) (fun _ _ _ h => h) (by rfl) ?_ (fun _ => hHeld) ?_
  rotate_left
  · (intro w; (try intro hSw); (try dsimp only at hSw); go_simp; try with_reducible rfl)
  simp only [Act.put, List.setIfInBounds_toArray, List.set_cons_zero, List.set_cons_succ]
  refine takeS 1 54 (v := ?_) rfl rfl (by decide) (by kernel_rfl) (by kernel_rfl) (by kernel_rfl) (by kernel_rfl) (by kernel_rfl) (fun _ _ _ h => h) (by rfl) ?_ hHeld ?_
  rotate_left
  · (intro w; (try intro hSw); (try dsimp only at hSw); go_simp; try with_reducible rfl)
  simp only [Act.put, List.setIfInBounds_toArray, List.set_cons_zero, List.set_cons_succ]
  refine stepC 3 (by kernel_rfl) rfl (fun K hK => ?_)
  go_simp
  (go_at_call 31; refine (HCl.out _).mono ?_; rintro e w3 ⟨rfl, hg3⟩; have c1b := hg3.keep (p := ⟨w.heap.size, 1, none⟩) (v := .string fd) c1s)
  (try go_wp2_with fail)
  refine hK.out _ _ (by first | with_reducible exact hHeld | with_reducible exact c1s | with_reducible exact c1b) (fun hHeldN => ?_)
  clear hHeld hK K
  have hHeld := hHeldN
  clear hHeldN
  refine takeW 4 57 (v := ?_) rfl rfl (by decide) (by kernel_rfl) (by kernel_rfl) (by kernel_rfl) (fun _ _ _ h => h) (by rfl) ?_ (fun _ => hHeld) ?_
  rotate_left
  · (intro w; (try intro hSw); (try dsimp only at hSw); go_simp; try with_reducible rfl)
  simp only [Act.put, List.setIfInBounds_toArray, List.set_cons_zero, List.set_cons_succ]
  refine takeW 5 58 (v := ?_) rfl rfl (by decide) (by kernel_rfl) (by kernel_rfl) (by kernel_rfl) (fun _ _ _ h => h) (by rfl) ?_ (fun _ => hHeld) ?_
  rotate_left
  · (intro w; (try intro hSw); (try dsimp only at hSw); go_simp; try with_reducible rfl)
  simp only [Act.put, List.setIfInBounds_toArray, List.set_cons_zero, List.set_cons_succ]
  have B3 : BoxAt w3 w.heap.size (.int .i64 n) (.string fd) (.int .i64 fy) := (BoxAt.gr ⟨by simp [go_sem, *], by simp [go_sem, *], by simp [go_sem, *], by simp [go_sem, *], by simp [go_sem, *], by simp [go_sem, *], by simpa using lt2⟩ hg3)
  obtain ⟨d0, d1, d2, g0, g1, g2, lt3⟩ := B3
  have HG3 : Hid (Gr w w3) := (HG2.out.set ⟨w.heap.size, 0, none⟩ (Nat.le_refl _) _).drew.trans hg3
  clear c0 c1 c2 f0 f1 f2 c1s c1b hg3
  refine stepS (by kernel_rfl) rfl (by kernel_rfl) (fun K hK => ?_)
  go_simp
  refine hK.out _ _ ?_
  clear hHeld hK K
  refine doneL (by kernel_rfl) ?_ _
  have HG4 : Hid (Gr w (w3.setCell ⟨w.heap.size, 1, none⟩ (.string (fd ++ d)))) := HG3.out.set _ (Nat.le_refl _) _
  go_wp2_with fail
  refine (HPt.out _ HG4.out).mono ?_
  rintro e w4 ⟨rfl, hd4, ht4⟩
  have HD4 := Lib.hid hd4
  have HT4 := Lib.hid ht4
  clear hd4 ht4 d0 d1 d2 g0 g1 g2
  go_wp2_with fail
  refine (HCn.out _ HD4.out).mono ?_
  rintro e w5 ⟨rfl, hr⟩
  have HR := Lib.hid (FaR.td HT4.out hr)
  clear hr
  go_wp2
  go_ret
  exact ⟨rfl, HR.out⟩
set_option maxHeartbeats 8000000 in
set_option maxRecDepth 100000 in
theorem append_v7 (h : DAt w b m A s) (n : Int) (d : ByteArray) (hd : s.dead = false) (h1 : ¬ (n < 0 ∨ 1000000 < n)) (hh : Dk.has s.L n = true) (hf : ¬ s.room < (used s.L : Int) + d.size) (he : ¬ d.size = 0) :
    Calls Tryz.prog 74 #[ptr b, .int .i64 n, .string d] w fun e w' => e = .returned (.int .i64 (Dk.appE s n d)) ∧ FaR w w' b m (Dk.appS s n d) := by
  have HP := Lib.hid (power_any h)
  unfold Dk.craE at HP
  rw [hd] at HP
  have HW := Lib.hid (within_any n 0 1000000 w)
  rw [decide_eq_true (show 0 ≤ n ∧ n ≤ 1000000 by omega)] at HW
  have HD := Lib.hid h
  have hr0 := h.ok.r0
  have hr1 := h.ok.r1
  have hfit := h.ok.fits
  have h2 : ¬ ((Dk.has s.L n = false ∧ 8 ≤ s.L.length) ∨ s.room < (used s.L : Int) + d.size) := fun e => e.elim (fun e => by rw [hh] at e; cases e.1) hf
  rw [(app_go hd h1 h2 he).1, (app_go hd h1 h2 he).2]
  obtain ⟨hfo, hok⟩ := h.ok.ext h1 h2 he
  have HPt : Hid (∀ w', Gr w w' → Calls Tryz.prog 26 #[ptr b, .agg #[.int .i64 n, .string ((Dk.get s.L n).d ++ d), .int .i64 (Dk.get s.L n).y]] w' fun e w2 => e = .returned (.tuple #[]) ∧ DAt w2 b m A { s with L := Dk.ins (Dk.ext s.L n d) s.L } ∧ Td w w2 b m) := by
    intro w' g
    refine (put_ins (f := Dk.ext s.L n d) (h.gr g) hfo.emp (by show _ ≤ n; omega) (by show n ≤ _; omega) hok).mono ?_
    rintro e w2 ⟨rfl, q1, q2⟩
    exact ⟨rfl, q1, (Td.gr g).trans q2⟩
  have HCn : Hid (∀ w', DAt w' b m A { s with L := Dk.ins (Dk.ext s.L n d) s.L } → Calls Tryz.prog 96 #[ptr b] w' fun e w2 => e = .returned (.int .i64 (Dk.cntE s)) ∧ FaR w' w2 b m (Dk.cntS { s with L := Dk.ins (Dk.ext s.L n d) s.L })) := fun w' hw' => count_any hw'
  have hcat := cat_run (Dk.get s.L n).d d (by
    have := hfo.d1
    have h6 := Dk.used_ins (Dk.ext s.L n d) s.L h.ok.up
    have h7 : (Dk.ext s.L n d).d.size = (Dk.get s.L n).d.size + d.size := by simp [Dk.ext]
    have h8 := hok.fits
    have h9 : (Dk.ext s.L n d).d.size ≤ used (Dk.ins (Dk.ext s.L n d) s.L) := by
      have h10 := Dk.used_del hok.up (Dk.has_of (Dk.self_ins (Dk.ext s.L n d) s.L))
      have h11 := Dk.get_ins (Dk.ext s.L n d) h.ok.up
      simp only at h10
      rw [h11] at h10
      omega
    simp only at h8
    omega)
  have HCl : Hid (∀ w', Calls Tryz.prog 31 #[.string d] w' fun e w2 => e = .returned (.string d) ∧ Gr w' w2) := fun w' => clone_any d w' (by omega)
  have hl := h.ok.len
  have hlook := (h.fl.look (k := n) (by omega) (by omega)).1
  rw [hh] at hlook
  have HU : Hid (∀ w', Gr w w' → Calls Tryz.prog 95 #[ptr b] w' fun e w2 => e = .returned (.int .i64 (used s.L : Int)) ∧ Gr w' w2) := fun w' g => used_any (h.gr g)
  have HS : Hid (∀ w', Gr w w' → w'.cell? ⟨b, 0, none⟩ = some (.map (some m)) ∧ w'.cell? ⟨b, 1, none⟩ = some (.int .i64 s.room) ∧ ∀ ty, (Builtin.len_ #[61] ty #[.map (some m)]).run Tryz.prog w' = .ok (.int .i64 (s.L.length : Int)) w') := fun w' g => ⟨(h.gr g).mp, (h.gr g).rm, fun ty => (h.gr g).fl.len ty⟩
  have hmp := h.mp
  clear h
  have hwr : IntKind.i64.wrap (s.room - (used s.L : Int)) = s.room - (used s.L : Int) := wrapI (by omega) (by omega)
  have hfb : decide (s.room - (used s.L : Int) < (d.size : Int)) = false := decide_eq_false (by omega)
  have hemp := emp_any d
  rw [decide_eq_false he] at hemp
  clear he
  generalize hget : Dk.get s.L n = f at *
  generalize hlen : s.L.length = ll at *
  generalize hus : used s.L = us at *
  obtain ⟨fn, fd, fy⟩ := f
  try simp only at *
  go_enter Tryz.func74, Tryz.ntmps74
  go_upto_region 7 with (first
    | (go_at_call 41; refine HP.out.mono ?_; rintro e w' ⟨rfl, hw⟩; obtain rfl := hw.symm; clear hw)
    | (go_at_call 52; refine HW.out.mono ?_; rintro e w' ⟨rfl, hw⟩; obtain rfl := hw.symm; clear hw))
  refine wp_region_held_drew (S := (fun w' => w'.cell? ⟨b, 0, none⟩ = some (.map (some m)) ∧ w'.cell? ⟨b, 1, none⟩ = some (.int .i64 s.room) ∧ ∀ ty, (Builtin.len_ #[61] ty #[.map (some m)]).run Tryz.prog w' = .ok (.int .i64 (ll : Int)) w')) (by kernel_rfl) (by first | with_reducible exact hHeld | with_reducible exact HS.out _ (Gr.refl w).alloc.drew | with_reducible exact HS.out _ HG2.out) (fun hHeld => ?_)
  refine take_yes 0 27 (v := ?_) rfl rfl (by kernel_rfl) (by kernel_rfl) (by kernel_rfl) (fun _ _ _ h => h) (by rfl) ?_ hHeld ?_
  rotate_left
  · (intro w hSw; (try dsimp only at hSw); go_simp; try with_reducible rfl)
  simp only [Act.put, List.setIfInBounds_toArray, List.set_cons_zero, List.set_cons_succ]
  refine take_yes 1 28 (v := ?_) rfl rfl (by kernel_rfl) (by kernel_rfl) (by kernel_rfl) (fun _ _ _ h => h) (by rfl) ?_ hHeld ?_
  rotate_left
  · (intro w hSw; (try dsimp only at hSw); go_simp; try with_reducible rfl)
  simp only [Act.put, List.setIfInBounds_toArray, List.set_cons_zero, List.set_cons_succ]
  refine take_yes 2 29 (v := ?_) rfl rfl (by kernel_rfl) (by kernel_rfl) (by kernel_rfl) (fun _ _ _ h => h) (by rfl) ?_ hHeld ?_
  rotate_left
  · (intro w hSw; (try dsimp only at hSw); go_simp; try with_reducible rfl)
  simp only [Act.put, List.setIfInBounds_toArray, List.set_cons_zero, List.set_cons_succ]
  refine take_not 3 30 rfl rfl (by kernel_rfl) (by kernel_rfl) (by kernel_rfl) (fun _ _ _ h => h) (by rfl) hHeld ?_
  simp only [Act.put, List.setIfInBounds_toArray, List.set_cons_zero, List.set_cons_succ]
  refine take_not 4 31 rfl rfl (by kernel_rfl) (by kernel_rfl) (by kernel_rfl) (fun _ _ _ h => h) (by rfl) hHeld ?_
  simp only [Act.put, List.setIfInBounds_toArray, List.set_cons_zero, List.set_cons_succ]
  refine take_not 5 32 rfl rfl (by kernel_rfl) (by kernel_rfl) (by kernel_rfl) (fun _ _ _ h => h) (by rfl) hHeld ?_
  simp only [Act.put, List.setIfInBounds_toArray, List.set_cons_zero, List.set_cons_succ]
  refine take_not 6 33 rfl rfl (by kernel_rfl) (by kernel_rfl) (by kernel_rfl) (fun _ _ _ h => h) (by rfl) hHeld ?_
  simp only [Act.put, List.setIfInBounds_toArray, List.set_cons_zero, List.set_cons_succ]
  refine take_not 7 34 rfl rfl (by kernel_rfl) (by kernel_rfl) (by kernel_rfl) (fun _ _ _ h => h) (by rfl) hHeld ?_
  simp only [Act.put, List.setIfInBounds_toArray, List.set_cons_zero, List.set_cons_succ]
  refine take_not 8 35 rfl rfl (by kernel_rfl) (by kernel_rfl) (by kernel_rfl) (fun _ _ _ h => h) (by rfl) hHeld ?_
  simp only [Act.put, List.setIfInBounds_toArray, List.set_cons_zero, List.set_cons_succ]
  refine take_yes 9 36 (v := ?_) rfl rfl (by kernel_rfl) (by kernel_rfl) (by kernel_rfl) (fun _ _ _ h => h) (by rfl) ?_ hHeld ?_
  rotate_left
  · (intro w hSw; (try dsimp only at hSw); go_simp; try with_reducible rfl)
  simp only [Act.put, List.setIfInBounds_toArray, List.set_cons_zero, List.set_cons_succ]
  refine take_yes 10 37 (v := ?_) rfl rfl (by kernel_rfl) (by kernel_rfl) (by kernel_rfl) (fun _ _ _ h => h) (by rfl) ?_ hHeld ?_
  rotate_left
  · (intro w hSw; (try dsimp only at hSw); go_simp; try with_reducible rfl)
  simp only [Act.put, List.setIfInBounds_toArray, List.set_cons_zero, List.set_cons_succ]
  refine take_yes 11 38 (v := ?_) rfl rfl (by kernel_rfl) (by kernel_rfl) (by kernel_rfl) (fun _ _ _ h => h) (by rfl) ?_ hHeld ?_
  rotate_left
  · (intro w hSw; (try dsimp only at hSw); go_simp; try with_reducible rfl)
  simp only [Act.put, List.setIfInBounds_toArray, List.set_cons_zero, List.set_cons_succ]
  refine take_yes 12 39 (v := ?_) rfl rfl (by kernel_rfl) (by kernel_rfl) (by kernel_rfl) (fun _ _ _ h => h) (by rfl) ?_ hHeld ?_
  rotate_left
  · (intro w hSw; (try dsimp only at hSw); go_simp; try with_reducible rfl)
  simp only [Act.put, List.setIfInBounds_toArray, List.set_cons_zero, List.set_cons_succ]
  refine take_yes 13 40 (v := ?_) rfl rfl (by kernel_rfl) (by kernel_rfl) (by kernel_rfl) (fun _ _ _ h => h) (by rfl) ?_ hHeld ?_
  rotate_left
  · (intro w hSw; (try dsimp only at hSw); go_simp; try with_reducible rfl)
  simp only [Act.put, List.setIfInBounds_toArray, List.set_cons_zero, List.set_cons_succ]
  refine take_yes 14 41 (v := ?_) rfl rfl (by kernel_rfl) (by kernel_rfl) (by kernel_rfl) (fun _ _ _ h => h) (by rfl) ?_ hHeld ?_
  rotate_left
  · (intro w hSw; (try dsimp only at hSw); go_simp; try with_reducible rfl)
  simp only [Act.put, List.setIfInBounds_toArray, List.set_cons_zero, List.set_cons_succ]
  refine take_yes 15 42 (v := ?_) rfl rfl (by kernel_rfl) (by kernel_rfl) (by kernel_rfl) (fun _ _ _ h => h) (by rfl) ?_ hHeld ?_
  rotate_left
  · (intro w hSw; (try dsimp only at hSw); go_simp; try with_reducible rfl)
  simp only [Act.put, List.setIfInBounds_toArray, List.set_cons_zero, List.set_cons_succ]
  refine take_yes 16 43 (v := ?_) rfl rfl (by kernel_rfl) (by kernel_rfl) (by kernel_rfl) (fun _ _ _ h => h) (by rfl) ?_ hHeld ?_
  rotate_left
  · (intro w hSw; (try dsimp only at hSw); go_simp; try with_reducible rfl)
  simp only [Act.put, List.setIfInBounds_toArray, List.set_cons_zero, List.set_cons_succ]
  refine take_yes 17 44 (v := ?_) rfl rfl (by kernel_rfl) (by kernel_rfl) (by kernel_rfl) (fun _ _ _ h => h) (by rfl) ?_ hHeld ?_
  rotate_left
  · (intro w hSw; (try dsimp only at hSw); go_simp; try with_reducible rfl)
  simp only [Act.put, List.setIfInBounds_toArray, List.set_cons_zero, List.set_cons_succ]
  refine wpAnyH_ready (rs := [18]) (by kernel_rfl) (by simp) (AllReadyH.cons rfl (fun K hK => ?_) AllReadyH.nil)
  go_simp
  (go_at_call 95; refine (HU.out _ (Gr.refl w).alloc.drew).mono ?_; rintro e w2 ⟨rfl, hg2⟩; have HG2 := Lib.hid ((Gr.refl w).alloc.drew.trans hg2))
  (try go_wp2_with fail)
  refine hK.out _ _ (by first | with_reducible exact hHeld | with_reducible exact HS.out _ (Gr.refl w).alloc.drew | with_reducible exact HS.out _ HG2.out) (fun hHeldN => ?_)
  clear hHeld hK K
  have hHeld := hHeldN
  clear hHeldN
  refine take_yes 19 46 (v := ?_) rfl rfl (by kernel_rfl) (by kernel_rfl) (by kernel_rfl) (fun _ _ _ h => h) (by rfl) ?_ hHeld ?_
  rotate_left
  · (intro w hSw; (try dsimp only at hSw); go_simp; try with_reducible rfl)
  simp only [Act.put, List.setIfInBounds_toArray, List.set_cons_zero, List.set_cons_succ]
  refine take_yes 20 47 (v := ?_) rfl rfl (by kernel_rfl) (by kernel_rfl) (by kernel_rfl) (fun _ _ _ h => h) (by rfl) ?_ hHeld ?_
  rotate_left
  · (intro w hSw; (try dsimp only at hSw); go_simp; try with_reducible rfl)
  simp only [Act.put, List.setIfInBounds_toArray, List.set_cons_zero, List.set_cons_succ]
  refine take_yes 21 48 (v := ?_) rfl rfl (by kernel_rfl) (by kernel_rfl) (by kernel_rfl) (fun _ _ _ h => h) (by rfl) ?_ hHeld ?_
  rotate_left
  · (intro w hSw; (try dsimp only at hSw); go_simp; try with_reducible rfl)
  simp only [Act.put, List.setIfInBounds_toArray, List.set_cons_zero, List.set_cons_succ]
  refine wpAnyH_done (by kernel_rfl) ?_ _
  clear hHeld
  have B2 := ((BoxAt.new w (.int .i64 fn) (.string fd) (.int .i64 fy) 24 _ rfl).gr (Gr.refl _).drew).gr hg2
  clear hg2 HU HS
  obtain ⟨c0, c1, c2, f0, f1, f2, lt2⟩ := B2
  have c1s : (w2.setCell ⟨w.heap.size, 0, none⟩ (.int .i64 n)).drew.cell? ⟨w.heap.size, 1, none⟩ = some (.string fd) := by simp [go_sem, *]
  go_upto_region 12 with fail
  refine beginL 6 (fun w' => w'.cell? ⟨w.heap.size, 1, none⟩ = some (.string fd)) (by kernel_rfl) (by first | with_reducible exact hHeld | with_reducible exact c1s | with_reducible exact c1b) (fun hHeld => ?_)
  refine takeW 0 53 (v := ?_) rfl rfl (by decide) (by kernel_rfl) (by kernel_rfl) (by kernel_rfl) (fun _ _ _ h => h) (by rfl) ?_ (fun _ => hHeld) ?_
  rotate_left
  · (intro w; (try intro hSw); (try dsimp only at hSw); go_simp; try with_reducible rfl)
  simp only [Act.put, List.setIfInBounds_toArray, List.set_cons_zero, List.set_cons_succ]
  refine takeW 2 55 (v := ?_) rfl rfl (by decide) (by kernel_rfl) (by kernel_rfl) (by kernel_rfl) (fun _ _ _ h => h) (by rfl) ?_ (fun _ => hHeld) ?_
  rotate_left
  · (intro w; (try intro hSw); (try dsimp only at hSw); go_simp; try with_reducible rfl)
  simp only [Act.put, List.setIfInBounds_toArray, List.set_cons_zero, List.set_cons_succ]
  refine takeS 1 54 (v := ?_) rfl rfl (by decide) (by kernel_rfl) (by kernel_rfl) (by kernel_rfl) (by kernel_rfl) (by kernel_rfl) (fun _ _ _ h => h) (by rfl) ?_ hHeld ?_
  rotate_left
  · (intro w; (try intro hSw); (try dsimp only at hSw); go_simp; try with_reducible rfl)
  simp only [Act.put, List.setIfInBounds_toArray, List.set_cons_zero, List.set_cons_succ]
  refine stepC 3 (by kernel_rfl) rfl (fun K hK => ?_)
  go_simp
  (go_at_call 31; refine (HCl.out _).mono ?_; rintro e w3 ⟨rfl, hg3⟩; have c1b := hg3.keep (p := ⟨w.heap.size, 1, none⟩) (v := .string fd) c1s)
  (try go_wp2_with fail)
  refine hK.out _ _ (by first | with_reducible exact hHeld | with_reducible exact c1s | with_reducible exact c1b) (fun hHeldN => ?_)
  clear hHeld hK K
  have hHeld := hHeldN
  clear hHeldN
  refine takeW 4 57 (v := ?_) rfl rfl (by decide) (by kernel_rfl) (by kernel_rfl) (by kernel_rfl) (fun _ _ _ h => h) (by rfl) ?_ (fun _ => hHeld) ?_
  rotate_left
  · (intro w; (try intro hSw); (try dsimp only at hSw); go_simp; try with_reducible rfl)
  simp only [Act.put, List.setIfInBounds_toArray, List.set_cons_zero, List.set_cons_succ]
  refine takeW 5 58 (v := ?_) rfl rfl (by decide) (by kernel_rfl) (by kernel_rfl) (by kernel_rfl) (fun _ _ _ h => h) (by rfl) ?_ (fun _ => hHeld) ?_
  rotate_left
  · (intro w; (try intro hSw); (try dsimp only at hSw); go_simp; try with_reducible rfl)
  simp only [Act.put, List.setIfInBounds_toArray, List.set_cons_zero, List.set_cons_succ]
  have B3 : BoxAt w3 w.heap.size (.int .i64 n) (.string fd) (.int .i64 fy) := (BoxAt.gr ⟨by simp [go_sem, *], by simp [go_sem, *], by simp [go_sem, *], by simp [go_sem, *], by simp [go_sem, *], by simp [go_sem, *], by simpa using lt2⟩ hg3)
  obtain ⟨d0, d1, d2, g0, g1, g2, lt3⟩ := B3
  have HG3 : Hid (Gr w w3) := (HG2.out.set ⟨w.heap.size, 0, none⟩ (Nat.le_refl _) _).drew.trans hg3
  clear c0 c1 c2 f0 f1 f2 c1s c1b hg3
  refine stepS (by kernel_rfl) rfl (by kernel_rfl) (fun K hK => ?_)
  go_simp
  refine hK.out _ _ ?_
  clear hHeld hK K
  refine doneL (by kernel_rfl) ?_ _
  have HG4 : Hid (Gr w (w3.setCell ⟨w.heap.size, 1, none⟩ (.string (fd ++ d)))) := HG3.out.set _ (Nat.le_refl _) _
  go_wp2_with fail
  refine (HPt.out _ HG4.out).mono ?_
  rintro e w4 ⟨rfl, hd4, ht4⟩
  have HD4 := Lib.hid hd4
  have HT4 := Lib.hid ht4
  clear hd4 ht4 d0 d1 d2 g0 g1 g2
  go_wp2_with fail
  refine (HCn.out _ HD4.out).mono ?_
  rintro e w5 ⟨rfl, hr⟩
  have HR := Lib.hid (FaR.td HT4.out hr)
  clear hr
  go_wp2
  go_ret
  exact ⟨rfl, HR.out⟩
theorem append_any (h : DAt w b m A s) (n : Int) (d : ByteArray) :
    Calls Tryz.prog 74 #[ptr b, .int .i64 n, .string d] w fun e w' => e = .returned (.int .i64 (Dk.appE s n d)) ∧ FaR w w' b m (Dk.appS s n d) := by
  cases hd : s.dead with
  | true => exact append_dead h n d hd
  | false =>
    by_cases h1 : n < 0 ∨ 1000000 < n
    · exact append_arg h n d hd h1
    · cases hh : Dk.has s.L n with
      | false =>
        by_cases h8 : 8 ≤ s.L.length
        · exact append_v1 h n d hd h1 hh h8
        · by_cases hf : s.room < (used s.L : Int) + d.size
          · exact append_v2 h n d hd h1 hh h8 hf
          · by_cases he : d.size = 0
            · exact append_v4 h n d hd h1 hh h8 hf he
            · exact append_v6 h n d hd h1 hh h8 hf he
      | true =>
        by_cases hf : s.room < (used s.L : Int) + d.size
        · exact append_v3 h n d hd h1 hh hf
        · by_cases he : d.size = 0
          · exact append_v5 h n d hd h1 hh hf he
          · exact append_v7 h n d hd h1 hh hf he
end Go.Proofs.YtojmhhmpmpbpfaaGreatDoor
