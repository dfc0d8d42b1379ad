
/- wheel: the order in which timers are sorted. -/
import Derived.Test.YtmgiiofjlgchfaaDoorWhT
import Derived.Test.YtmgiiofjlgchfaaDoorRegH
namespace Go.Proofs.YtmgiiofjlgchfaaDoor
open Go.RowKit Go.Maps Go.Sort
open Wh (Tm Sl ks hasK atK del ins put dig whl Inv tlt)

def tmf (x : Tm) : List Value := [.string x.1, .int .i64 (x.2 : Int)]
theorem tmf_len (x : Tm) : (tmf x).length = 2 := rfl
theorem tmf_one (x : Tm) : ∀ v ∈ tmf x, v.oneCell' = true := by
  intro v hv
  simp [tmf] at hv
  rcases hv with rfl | rfl <;> rfl
def orI (x y : Int) : Int := if x = 0 then y else x
def cfT (x y : Tm) : Int := orI (Lib.compareInt (x.2 : Int) (y.2 : Int)) (Wh.cmpE x.1 y.1)
set_option maxHeartbeats 2000000 in
theorem or_any (x y : Int) (B : Nat) (w : World) (h0 : w.cell? ⟨B, 0, none⟩ = some (.int .i64 x)) (h1 : w.cell? ⟨B, 1, none⟩ = some (.int .i64 y)) :
    Calls Tryd.prog 41 #[.slice (some ⟨B, 0, none⟩) 2 2] w fun e w' => e = .returned (.int .i64 (orI x y)) ∧ w' = w := by
  have HO : Hid (orI x y = if x = 0 then y else x) := rfl
  generalize orI x y = r at HO
  go_enter Tryd.func41, Tryd.ntmps41
  go_wp2
  go_loop [5, 8] (fun _ i => i = .int .i64 0 ∨ (i = .int .i64 1 ∧ x = 0) ∨ (i = .int .i64 2 ∧ x = 0 ∧ y = 0)) (fun _ i => (2 - intOf i).toNat)
  case atStart => exact Or.inl rfl
  case round =>
    rcases hrel with rfl | ⟨rfl, rfl⟩ | ⟨rfl, rfl, rfl⟩
    · by_cases hx : x = 0
      · subst hx
        go_wp2
        go_round
        case rel => exact Or.inr (Or.inl (by simp))
        case measure => simp [intOf]
      · have hb : (x != 0) = true := by simpa using hx
        have HR : Hid (r = x) := by show r = x; rw [HO.out, if_neg hx]
        clear hx HO
        go_wp2
        go_ret
        exact ⟨by rw [HR.out]; rfl, rfl⟩
    · by_cases hy : y = 0
      · subst hy
        go_wp2
        go_round
        case rel => exact Or.inr (Or.inr (by simp))
        case measure => simp [intOf]
      · have hb : (y != 0) = true := by simpa using hy
        have HR : Hid (r = y) := by show r = y; rw [HO.out, if_pos rfl]
        clear hy HO
        go_wp2
        go_ret
        exact ⟨by rw [HR.out]; rfl, rfl⟩
    · have HR : Hid (r = 0) := by show r = 0; rw [HO.out, if_pos rfl]
      clear HO
      go_wp2
      go_ret
      exact ⟨by rw [HR.out]; rfl, rfl⟩
theorem hold2 {a b : World} (g : Gr a b) {q0 q1 q2 q3 : Addr} {v0 v1 v2 v3 : Value} (h : a.cell? q0 = some v0 ∧ a.cell? q1 = some v1 ∧ a.cell? q2 = some v2 ∧ a.cell? q3 = some v3) :
    b.cell? q0 = some v0 ∧ b.cell? q1 = some v1 ∧ b.cell? q2 = some v2 ∧ b.cell? q3 = some v3 := ⟨g.keep h.1, g.keep h.2.1, g.keep h.2.2.1, g.keep h.2.2.2⟩
set_option maxHeartbeats 4000000 in
set_option maxRecDepth 100000 in
theorem cmpT_any (x y : Tm) (w : World) : Calls Tryd.prog 40 #[.agg (tmf x).toArray, .agg (tmf y).toArray] w fun e w' => e = .returned (.int .i64 (cfT x y)) ∧ ∃ q os', w' = grow (w.drewN q) os' := by
  obtain ⟨xk, xa⟩ := x
  obtain ⟨yk, ya⟩ := y
  show Calls Tryd.prog 40 #[.agg #[.string xk, .int .i64 (xa : Int)], .agg #[.string yk, .int .i64 (ya : Int)]] w fun e w' => e = .returned (.int .i64 (orI (Lib.compareInt (xa : Int) (ya : Int)) (Wh.cmpE xk yk))) ∧ ∃ q os', w' = grow (w.drewN q) os'
  have HI : Hid (∀ W, Calls Tryd.prog 42 #[.int .i64 (xa : Int), .int .i64 (ya : Int)] W fun e w' => e = .returned (.int .i64 (Lib.compareInt (xa : Int) (ya : Int))) ∧ w' = W) := fun W => Tryd.cmp_Compare_int _ _ W
  have HS : Hid (∀ W, Calls Tryd.prog 43 #[.string xk, .string yk] W fun e w' => e = .returned (.int .i64 (Wh.cmpE xk yk)) ∧ w' = W) := fun W => Tryd.strings_Compare _ _ W
  generalize Lib.compareInt (xa : Int) (ya : Int) = ci at HI ⊢
  generalize Wh.cmpE xk yk = cs at HS ⊢
  generalize (xa : Int) = ax at HI ⊢
  generalize (ya : Int) = ay at HI ⊢
  have HOr : Hid (∀ W B, W.cell? ⟨B, 0, none⟩ = some (.int .i64 ci) → W.cell? ⟨B, 1, none⟩ = some (.int .i64 cs) → Calls Tryd.prog 41 #[.slice (some ⟨B, 0, none⟩) 2 2] W fun e w' => e = .returned (.int .i64 (orI ci cs)) ∧ w' = W) := fun W B h0 h1 => or_any ci cs B W h0 h1
  generalize orI ci cs = r at HOr ⊢
  go_enter Tryd.func40, Tryd.ntmps40
  go_wp2
  obtain ⟨W0, eW0⟩ : ∃ W0, W0 = ((w.alloc (.cells #[.string xk, .int .i64 ax] 61)).alloc (.cells #[.string yk, .int .i64 ay] 61)) := ⟨_, rfl⟩
  rw [← eW0]
  have HC : Hid (W0.cell? ⟨w.heap.size, 0, none⟩ = some (.string xk) ∧ W0.cell? ⟨w.heap.size, 1, none⟩ = some (.int .i64 ax) ∧ W0.cell? ⟨w.heap.size + 1, 0, none⟩ = some (.string yk) ∧ W0.cell? ⟨w.heap.size + 1, 1, none⟩ = some (.int .i64 ay)) := by
    show _ ∧ _
    subst eW0
    exact ⟨by simp, by simp, by simp, by simp⟩
  have HE : Hid (W0 = ((w.alloc (.cells #[.string xk, .int .i64 ax] 61)).alloc (.cells #[.string yk, .int .i64 ay] 61))) := eW0
  clear eW0
  refine wp_region_held_drew (S := (fun w' => w'.cell? ⟨w.heap.size, 0, none⟩ = some (.string xk) ∧ w'.cell? ⟨w.heap.size, 1, none⟩ = some (.int .i64 ax) ∧ w'.cell? ⟨w.heap.size + 1, 0, none⟩ = some (.string yk) ∧ w'.cell? ⟨w.heap.size + 1, 1, none⟩ = some (.int .i64 ay))) (by kernel_rfl) (by first | with_reducible exact hHeld | with_reducible exact hold2 (Gr.refl _).drew HC.out | with_reducible exact hold2 (Gr.refl _).alloc.drew HC.out) (fun hHeld => ?_)
  refine take_yes 0 5 (v := ?_) rfl rfl (by kernel_rfl) (by kernel_rfl) (by kernel_rfl) (fun _ _ _ h => h) (by rfl) ?_ hHeld ?_
  rotate_left
  · (intro w hSw; (try dsimp only at hSw); go_simp; try with_reducible rfl)
  simp only [Act.put, List.setIfInBounds_toArray, List.set_cons_zero, List.set_cons_succ]
  refine take_yes 1 6 (v := ?_) rfl rfl (by kernel_rfl) (by kernel_rfl) (by kernel_rfl) (fun _ _ _ h => h) (by rfl) ?_ hHeld ?_
  rotate_left
  · (intro w hSw; (try dsimp only at hSw); go_simp; try with_reducible rfl)
  simp only [Act.put, List.setIfInBounds_toArray, List.set_cons_zero, List.set_cons_succ]
  refine take_yes 2 7 (v := ?_) rfl rfl (by kernel_rfl) (by kernel_rfl) (by kernel_rfl) (fun _ _ _ h => h) (by rfl) ?_ hHeld ?_
  rotate_left
  · (intro w hSw; (try dsimp only at hSw); go_simp; try with_reducible rfl)
  simp only [Act.put, List.setIfInBounds_toArray, List.set_cons_zero, List.set_cons_succ]
  refine take_yes 3 8 (v := ?_) rfl rfl (by kernel_rfl) (by kernel_rfl) (by kernel_rfl) (fun _ _ _ h => h) (by rfl) ?_ hHeld ?_
  rotate_left
  · (intro w hSw; (try dsimp only at hSw); go_simp; try with_reducible rfl)
  simp only [Act.put, List.setIfInBounds_toArray, List.set_cons_zero, List.set_cons_succ]
  refine take_yes 5 10 (v := ?_) rfl rfl (by kernel_rfl) (by kernel_rfl) (by kernel_rfl) (fun _ _ _ h => h) (by rfl) ?_ hHeld ?_
  rotate_left
  · (intro w hSw; (try dsimp only at hSw); go_simp; try with_reducible rfl)
  simp only [Act.put, List.setIfInBounds_toArray, List.set_cons_zero, List.set_cons_succ]
  refine take_yes 6 11 (v := ?_) rfl rfl (by kernel_rfl) (by kernel_rfl) (by kernel_rfl) (fun _ _ _ h => h) (by rfl) ?_ hHeld ?_
  rotate_left
  · (intro w hSw; (try dsimp only at hSw); go_simp; try with_reducible rfl)
  simp only [Act.put, List.setIfInBounds_toArray, List.set_cons_zero, List.set_cons_succ]
  refine take_yes 7 12 (v := ?_) rfl rfl (by kernel_rfl) (by kernel_rfl) (by kernel_rfl) (fun _ _ _ h => h) (by rfl) ?_ hHeld ?_
  rotate_left
  · (intro w hSw; (try dsimp only at hSw); go_simp; try with_reducible rfl)
  simp only [Act.put, List.setIfInBounds_toArray, List.set_cons_zero, List.set_cons_succ]
  refine take_yes 8 13 (v := ?_) rfl rfl (by kernel_rfl) (by kernel_rfl) (by kernel_rfl) (fun _ _ _ h => h) (by rfl) ?_ hHeld ?_
  rotate_left
  · (intro w hSw; (try dsimp only at hSw); go_simp; try with_reducible rfl)
  simp only [Act.put, List.setIfInBounds_toArray, List.set_cons_zero, List.set_cons_succ]
  refine wpAnyH_ready (rs := [4]) (by kernel_rfl) (by simp) (AllReadyH.cons rfl (fun K hK => ?_) AllReadyH.nil)
  go_simp
  (go_at_call 42; refine (HI.out _).mono ?_; rintro e w' ⟨rfl, hw⟩; obtain rfl := hw.symm; clear hw)
  (try go_wp2_with fail)
  refine hK.out _ _ (by first | with_reducible exact hHeld | with_reducible exact hold2 (Gr.refl _).drew HC.out | with_reducible exact hold2 (Gr.refl _).alloc.drew HC.out) (fun hHeldN => ?_)
  clear hHeld hK K
  have hHeld := hHeldN
  clear hHeldN
  refine wpAnyH_ready (rs := [9]) (by kernel_rfl) (by simp) (AllReadyH.cons rfl (fun K hK => ?_) AllReadyH.nil)
  go_simp
  (go_at_call 43; refine (HS.out _).mono ?_; rintro e w' ⟨rfl, hw⟩; obtain rfl := hw.symm; clear hw)
  (try go_wp2_with fail)
  refine hK.out _ _ (by first | with_reducible exact hHeld | with_reducible exact hold2 (Gr.refl _).drew HC.out | with_reducible exact hold2 (Gr.refl _).alloc.drew HC.out) (fun hHeldN => ?_)
  clear hHeld hK K
  have hHeld := hHeldN
  clear hHeldN
  refine wpAnyH_ready (rs := [10]) (by kernel_rfl) (by simp) (AllReadyH.cons rfl (fun K hK => ?_) AllReadyH.nil)
  go_simp
  refine hK.out _ _ (by first | with_reducible exact hHeld | with_reducible exact hold2 (Gr.refl _).drew HC.out | with_reducible exact hold2 (Gr.refl _).alloc.drew HC.out) (fun hHeldN => ?_)
  clear hHeld hK K
  have hHeld := hHeldN
  clear hHeldN
  refine wpAnyH_ready (rs := [11]) (by kernel_rfl) (by simp) (AllReadyH.cons rfl (fun K hK => ?_) AllReadyH.nil)
  go_simp
  (go_at_call 41; refine (HOr.out _ _ (by simp) (by simp)).mono ?_; rintro e w' ⟨rfl, hw⟩; obtain rfl := hw.symm; clear hw)
  (try go_wp2_with fail)
  refine hK.out _ _ (by first | with_reducible exact hHeld | with_reducible exact hold2 (Gr.refl _).drew HC.out | with_reducible exact hold2 (Gr.refl _).alloc.drew HC.out) (fun hHeldN => ?_)
  clear hHeld hK K
  have hHeld := hHeldN
  clear hHeldN
  refine take_yes 12 4 (v := ?_) rfl rfl (by kernel_rfl) (by kernel_rfl) (by kernel_rfl) (fun _ _ _ h => h) (by rfl) ?_ hHeld ?_
  rotate_left
  · (intro w hSw; (try dsimp only at hSw); go_simp; try with_reducible rfl)
  simp only [Act.put, List.setIfInBounds_toArray, List.set_cons_zero, List.set_cons_succ]
  refine wpAnyH_done (by kernel_rfl) ?_ _
  clear hHeld HC
  go_wp2
  go_ret
  exact ⟨rfl, 1, _, by rw [HE.out, alloc_eq_grow, alloc_eq_grow, alloc_eq_grow, grow_grow, grow_grow]; rfl⟩
end Go.Proofs.YtmgiiofjlgchfaaDoor
