
/- WheelPlays: few calls, a time that a wheel may have. -/
import Derived.Test.YtmgiiofjlgchfaaDoorWpF
namespace Go.Proofs.YtmgiiofjlgchfaaDoor
open Go.RowKit Go.Maps Go.Sort
open Wh (Tm Sl ks hasK atK del ins put dig whl Inv tlt Up trn upto past)

set_option maxHeartbeats 32000000 in
set_option maxRecDepth 100000 in
theorem plays_main (t : Nat) (T : List Ac) (ad : Option Addr) (cap : Nat) (w : World) (hT : Tb w) (hR : RowAt acf w ad T) (h1 : t ≤ 1000000000) (hn : T.length ≤ 9223372036854775807) (hi : ∀ x ∈ T, inAc x) (hfew : fewB T = true) :
    Calls Tryd.prog 3 #[.int .i64 (t : Int), .slice ad T.length cap] w fun e w' => e = .returned (.bool true) ∧ Gr w w' := by
  have HT : Hid (Tb w) := hT
  have HI := Lib.hid hi
  have HR := Lib.hid hR
  have HF := Lib.hid (few_any T ad cap w hR hn)
  rw [hfew] at HF
  have HAw : Hid (∀ w', Gr w w' → Calls Tryd.prog 8 #[] w' fun e w2 => e = .returned (.bool true) ∧ Gr w' w2) := fun w' g => awake_any w' (hT.gr g)
  clear hT hi hR hfew
  go_enter Tryd.func3, Tryd.ntmps3
  go_wp2_with fail
  refine HF.out.mono ?_
  rintro e w' ⟨rfl, hw⟩
  obtain rfl := hw.symm
  clear hw HF
  go_wp2_with fail
  refine (new_yes (t := t) w h1).mono ?_
  rintro e w1 ⟨rfl, hw, hg⟩
  have HWA := Lib.hid hw
  have HG1 := Lib.hid hg
  clear hw hg
  go_wp2_with fail
  refine (rnew_yes (t := t) w1 h1).mono ?_
  rintro e w2 ⟨rfl, hr, hg2⟩
  have HP0 := Lib.hid (Pl.new h1 HWA.out HG1.out hr hg2)
  obtain ⟨b, hb⟩ : ∃ b, b = w.heap.size + 1 := ⟨_, rfl⟩
  rw [← hb] at HP0 ⊢
  obtain ⟨m, hm⟩ : ∃ m, m = w.heap.size := ⟨_, rfl⟩
  rw [← hm] at HP0
  obtain ⟨r, hr0⟩ : ∃ r, r = w1.heap.size := ⟨_, rfl⟩
  rw [← hr0] at HP0 ⊢
  clear hr hg2 hb hm hr0 HWA HG1
  go_wp2
  go_loopw [9] (fun i wr => ∃ (k t1 : Nat) (L : List Tm), k ≤ T.length ∧ i = .int .i64 (k : Int) ∧ Pl w wr b m t1 L r t1 L none) (fun i _ => T.length - (intOf i).toNat)
  case atStart => exact ⟨0, t, [], Nat.zero_le _, rfl, HP0.out⟩
  case round =>
    obtain ⟨k, t1, L, hk, rfl, hp⟩ := hrel
    have HP : Hid (Pl w wr b m t1 L r t1 L none) := hp
    clear hp HP0
    by_cases hlt : k < T.length
    · obtain ⟨x, off, hade, hxb, c0, c1, c2⟩ := ac_at HR.out k hlt
      have HKs : Hid (T[k].s.size ≤ 9223372036854775807) := (HI.out _ (List.getElem_mem hlt)).2.1
      have d0 := HP.out.gra.keep c0
      have d1 := HP.out.gra.keep c1
      have d2 := HP.out.gra.keep c2
      have hlti : (k : Int) < (T.length : Int) := by omega
      subst hade
      clear c0 c1 c2
      generalize T[k].k = tk at *
      generalize T[k].s = s at *
      generalize T[k].a = n at *
      by_cases hk0 : tk = 0
      · subst hk0
        have HPb : Hid (Pl w (wr.alloc (.cells #[.int .i64 0, .string s, .int .i64 n] 33)) b m t1 L r t1 L (some (wr.heap.size, s, n))) := HP.out.open (Gr.refl wr).alloc rfl (by simp) (by simp)

        have HLk : Hid (∀ W, Calls Tryd.prog 12 #[.int .i64 (t1 : Int), .int .i64 n] W fun e w' => e = .returned (.int .i64 (ltr t1 n)) ∧ w' = W) := fun W => later_any t1 n W (by omega) (by have := HP.out.ok2.time; omega)
        have HSet : Hid (∀ W, Pl w W b m t1 L r t1 L (some (wr.heap.size, s, n)) → Calls Tryd.prog 11 #[ptr b, .string s, .int .i64 (ltr t1 n)] W fun e w2 => e = .returned (.int .i64 (setE t1 L s (ltr t1 n))) ∧ Pl w w2 b m t1 (setL t1 L s (ltr t1 n)) r t1 L (some (wr.heap.size, s, n))) := fun W h => pl_set h s (ltr t1 n)
        have HRs : Hid (∀ W, Pl w W b m t1 (setL t1 L s (ltr t1 n)) r t1 L (some (wr.heap.size, s, n)) → Calls Tryd.prog 13 #[ptr r, .string s, .int .i64 (ltr t1 n)] W fun e w2 => e = .returned (.int .i64 (setE t1 L s (ltr t1 n))) ∧ Pl w w2 b m t1 (setL t1 L s (ltr t1 n)) r t1 (setL t1 L s (ltr t1 n)) (some (wr.heap.size, s, n))) := fun W h => pl_rset h s (ltr t1 n)
        have HS : Hid (∀ W X Y, Pl w W b m t1 X r t1 Y (some (wr.heap.size, s, n)) → W.cell? ⟨wr.heap.size, 1, none⟩ = some (.string s) ∧ W.cell? ⟨wr.heap.size, 2, none⟩ = some (.int .i64 n) ∧ W.cell? ⟨r, 0, none⟩ = some (.int .i64 (t1 : Int))) := fun W X Y h => ⟨h.box.1, h.box.2, h.time⟩
        generalize setE t1 L s (ltr t1 n) = se at *
        generalize setL t1 L s (ltr t1 n) = L3 at *
        generalize ltr t1 n = la at *
        go_upto_region 17 with fail

        obtain ⟨W1, hW1⟩ : ∃ W, W = wr.alloc (.cells #[.int .i64 0, .string s, .int .i64 n] 33) := ⟨_, rfl⟩
        rw [← hW1] at HPb ⊢
        clear hW1

        refine wp_region_held_drew (S := (fun w' => w'.cell? ⟨wr.heap.size, 1, none⟩ = some (.string s) ∧ w'.cell? ⟨wr.heap.size, 2, none⟩ = some (.int .i64 n) ∧ w'.cell? ⟨r, 0, none⟩ = some (.int .i64 (t1 : Int)))) (by kernel_rfl) (by first | with_reducible exact hHeld | with_reducible exact HS.out _ _ _ (HPb.out.gr (Gr.refl _).drew) | with_reducible exact HS.out _ _ _ hp2 | with_reducible exact HS.out _ _ _ hp3) (fun hHeld => ?_)
        refine take_yes 0 84 (v := ?_) rfl rfl (by kernel_rfl) (by kernel_rfl) (by kernel_rfl) (fun _ _ _ h => h) (by rfl) ?_ hHeld ?_
        rotate_left
        · (intro w hSw; (try dsimp only at hSw); go_simp; try with_reducible rfl)
        simp only [Act.put, List.setIfInBounds_toArray, List.set_cons_zero, List.set_cons_succ]
        refine take_yes 1 85 (v := ?_) rfl rfl (by kernel_rfl) (by kernel_rfl) (by kernel_rfl) (fun _ _ _ h => h) (by rfl) ?_ hHeld ?_
        rotate_left
        · (intro w hSw; (try dsimp only at hSw); go_simp; try with_reducible rfl)
        simp only [Act.put, List.setIfInBounds_toArray, List.set_cons_zero, List.set_cons_succ]
        refine take_yes 2 86 (v := ?_) rfl rfl (by kernel_rfl) (by kernel_rfl) (by kernel_rfl) (fun _ _ _ h => h) (by rfl) ?_ hHeld ?_
        rotate_left
        · (intro w hSw; (try dsimp only at hSw); go_simp; try with_reducible rfl)
        simp only [Act.put, List.setIfInBounds_toArray, List.set_cons_zero, List.set_cons_succ]
        refine take_yes 3 87 (v := ?_) rfl rfl (by kernel_rfl) (by kernel_rfl) (by kernel_rfl) (fun _ _ _ h => h) (by rfl) ?_ hHeld ?_
        rotate_left
        · (intro w hSw; (try dsimp only at hSw); go_simp; try with_reducible rfl)
        simp only [Act.put, List.setIfInBounds_toArray, List.set_cons_zero, List.set_cons_succ]
        refine take_yes 4 88 (v := ?_) rfl rfl (by kernel_rfl) (by kernel_rfl) (by kernel_rfl) (fun _ _ _ h => h) (by rfl) ?_ hHeld ?_
        rotate_left
        · (intro w hSw; (try dsimp only at hSw); go_simp; try with_reducible rfl)
        simp only [Act.put, List.setIfInBounds_toArray, List.set_cons_zero, List.set_cons_succ]
        refine take_yes 5 89 (v := ?_) rfl rfl (by kernel_rfl) (by kernel_rfl) (by kernel_rfl) (fun _ _ _ h => h) (by rfl) ?_ hHeld ?_
        rotate_left
        · (intro w hSw; (try dsimp only at hSw); go_simp; try with_reducible rfl)
        simp only [Act.put, List.setIfInBounds_toArray, List.set_cons_zero, List.set_cons_succ]
        refine take_yes 6 90 (v := ?_) rfl rfl (by kernel_rfl) (by kernel_rfl) (by kernel_rfl) (fun _ _ _ h => h) (by rfl) ?_ hHeld ?_
        rotate_left
        · (intro w hSw; (try dsimp only at hSw); go_simp; try with_reducible rfl)
        simp only [Act.put, List.setIfInBounds_toArray, List.set_cons_zero, List.set_cons_succ]
        refine take_yes 7 91 (v := ?_) rfl rfl (by kernel_rfl) (by kernel_rfl) (by kernel_rfl) (fun _ _ _ h => h) (by rfl) ?_ hHeld ?_
        rotate_left
        · (intro w hSw; (try dsimp only at hSw); go_simp; try with_reducible rfl)
        simp only [Act.put, List.setIfInBounds_toArray, List.set_cons_zero, List.set_cons_succ]
        refine take_yes 8 92 (v := ?_) rfl rfl (by kernel_rfl) (by kernel_rfl) (by kernel_rfl) (fun _ _ _ h => h) (by rfl) ?_ hHeld ?_
        rotate_left
        · (intro w hSw; (try dsimp only at hSw); go_simp; try with_reducible rfl)
        simp only [Act.put, List.setIfInBounds_toArray, List.set_cons_zero, List.set_cons_succ]
        refine take_yes 11 95 (v := ?_) rfl rfl (by kernel_rfl) (by kernel_rfl) (by kernel_rfl) (fun _ _ _ h => h) (by rfl) ?_ hHeld ?_
        rotate_left
        · (intro w hSw; (try dsimp only at hSw); go_simp; try with_reducible rfl)
        simp only [Act.put, List.setIfInBounds_toArray, List.set_cons_zero, List.set_cons_succ]
        refine take_yes 12 96 (v := ?_) rfl rfl (by kernel_rfl) (by kernel_rfl) (by kernel_rfl) (fun _ _ _ h => h) (by rfl) ?_ hHeld ?_
        rotate_left
        · (intro w hSw; (try dsimp only at hSw); go_simp; try with_reducible rfl)
        simp only [Act.put, List.setIfInBounds_toArray, List.set_cons_zero, List.set_cons_succ]
        refine take_yes 13 97 (v := ?_) rfl rfl (by kernel_rfl) (by kernel_rfl) (by kernel_rfl) (fun _ _ _ h => h) (by rfl) ?_ hHeld ?_
        rotate_left
        · (intro w hSw; (try dsimp only at hSw); go_simp; try with_reducible rfl)
        simp only [Act.put, List.setIfInBounds_toArray, List.set_cons_zero, List.set_cons_succ]
        refine take_yes 14 98 (v := ?_) rfl rfl (by kernel_rfl) (by kernel_rfl) (by kernel_rfl) (fun _ _ _ h => h) (by rfl) ?_ hHeld ?_
        rotate_left
        · (intro w hSw; (try dsimp only at hSw); go_simp; try with_reducible rfl)
        simp only [Act.put, List.setIfInBounds_toArray, List.set_cons_zero, List.set_cons_succ]
        refine take_yes 15 99 (v := ?_) rfl rfl (by kernel_rfl) (by kernel_rfl) (by kernel_rfl) (fun _ _ _ h => h) (by rfl) ?_ hHeld ?_
        rotate_left
        · (intro w hSw; (try dsimp only at hSw); go_simp; try with_reducible rfl)
        simp only [Act.put, List.setIfInBounds_toArray, List.set_cons_zero, List.set_cons_succ]
        refine take_yes 16 100 (v := ?_) rfl rfl (by kernel_rfl) (by kernel_rfl) (by kernel_rfl) (fun _ _ _ h => h) (by rfl) ?_ hHeld ?_
        rotate_left
        · (intro w hSw; (try dsimp only at hSw); go_simp; try with_reducible rfl)
        simp only [Act.put, List.setIfInBounds_toArray, List.set_cons_zero, List.set_cons_succ]
        refine take_yes 17 101 (v := ?_) rfl rfl (by kernel_rfl) (by kernel_rfl) (by kernel_rfl) (fun _ _ _ h => h) (by rfl) ?_ hHeld ?_
        rotate_left
        · (intro w hSw; (try dsimp only at hSw); go_simp; try with_reducible rfl)
        simp only [Act.put, List.setIfInBounds_toArray, List.set_cons_zero, List.set_cons_succ]
        refine take_yes 18 102 (v := ?_) rfl rfl (by kernel_rfl) (by kernel_rfl) (by kernel_rfl) (fun _ _ _ h => h) (by rfl) ?_ hHeld ?_
        rotate_left
        · (intro w hSw; (try dsimp only at hSw); go_simp; try with_reducible rfl)
        simp only [Act.put, List.setIfInBounds_toArray, List.set_cons_zero, List.set_cons_succ]
        refine take_yes 19 103 (v := ?_) rfl rfl (by kernel_rfl) (by kernel_rfl) (by kernel_rfl) (fun _ _ _ h => h) (by rfl) ?_ hHeld ?_
        rotate_left
        · (intro w hSw; (try dsimp only at hSw); go_simp; try with_reducible rfl)
        simp only [Act.put, List.setIfInBounds_toArray, List.set_cons_zero, List.set_cons_succ]
        refine wpAnyH_ready (rs := [9]) (by kernel_rfl) (by simp) (AllReadyH.cons rfl (fun K hK => ?_) AllReadyH.nil)
        go_simp
        (go_at_call 12; refine (HLk.out _).mono ?_; rintro e w' ⟨rfl, hw⟩; obtain rfl := hw.symm; clear hw)
        (try go_wp2_with fail)
        refine hK.out _ _ (by first | with_reducible exact hHeld | with_reducible exact HS.out _ _ _ (HPb.out.gr (Gr.refl _).drew) | with_reducible exact HS.out _ _ _ hp2 | with_reducible exact HS.out _ _ _ hp3) (fun hHeldN => ?_)
        clear hHeld hK K
        have hHeld := hHeldN
        clear hHeldN
        refine wpAnyH_ready (rs := [10]) (by kernel_rfl) (by simp) (AllReadyH.cons rfl (fun K hK => ?_) AllReadyH.nil)
        go_simp
        (go_at_call 11; refine (HSet.out _ (HPb.out.gr (Gr.refl _).drew)).mono ?_; rintro e wA ⟨rfl, hp2⟩)
        (try go_wp2_with fail)
        refine hK.out _ _ (by first | with_reducible exact hHeld | with_reducible exact HS.out _ _ _ (HPb.out.gr (Gr.refl _).drew) | with_reducible exact HS.out _ _ _ hp2 | with_reducible exact HS.out _ _ _ hp3) (fun hHeldN => ?_)
        clear hHeld hK K
        have hHeld := hHeldN
        clear hHeldN
        refine wpAnyH_ready (rs := [20]) (by kernel_rfl) (by simp) (AllReadyH.cons rfl (fun K hK => ?_) AllReadyH.nil)
        go_simp
        (go_at_call 12; refine (HLk.out _).mono ?_; rintro e w' ⟨rfl, hw⟩; obtain rfl := hw.symm; clear hw)
        (try go_wp2_with fail)
        refine hK.out _ _ (by first | with_reducible exact hHeld | with_reducible exact HS.out _ _ _ (HPb.out.gr (Gr.refl _).drew) | with_reducible exact HS.out _ _ _ hp2 | with_reducible exact HS.out _ _ _ hp3) (fun hHeldN => ?_)
        clear hHeld hK K
        have hHeld := hHeldN
        clear hHeldN
        refine wpAnyH_ready (rs := [21]) (by kernel_rfl) (by simp) (AllReadyH.cons rfl (fun K hK => ?_) AllReadyH.nil)
        go_simp
        (go_at_call 13; refine (HRs.out _ hp2).mono ?_; rintro e wB ⟨rfl, hp3⟩)
        (try go_wp2_with fail)
        refine hK.out _ _ (by first | with_reducible exact hHeld | with_reducible exact HS.out _ _ _ (HPb.out.gr (Gr.refl _).drew) | with_reducible exact HS.out _ _ _ hp2 | with_reducible exact HS.out _ _ _ hp3) (fun hHeldN => ?_)
        clear hHeld hK K
        have hHeld := hHeldN
        clear hHeldN
        refine take_yes 22 106 (v := ?_) rfl rfl (by kernel_rfl) (by kernel_rfl) (by kernel_rfl) (fun _ _ _ h => h) (by rfl) ?_ hHeld ?_
        rotate_left
        · (intro w hSw; (try dsimp only at hSw); go_simp; try with_reducible rfl)
        simp only [Act.put, List.setIfInBounds_toArray, List.set_cons_zero, List.set_cons_succ]
        refine take_yes 23 11 (v := ?_) rfl rfl (by kernel_rfl) (by kernel_rfl) (by kernel_rfl) (fun _ _ _ h => h) (by rfl) ?_ hHeld ?_
        rotate_left
        · (intro w hSw; (try dsimp only at hSw); go_simp; try with_reducible rfl)
        simp only [Act.put, List.setIfInBounds_toArray, List.set_cons_zero, List.set_cons_succ]
        refine wpAnyH_done (by kernel_rfl) ?_ _
        have HPx := Lib.hid hp3
        clear hHeld hp2 hp3 HPb HS HRs HSet HLk d1 d2 d0

        have hb1 := HPx.out.box.1
        go_wp2_with fail
        refine (pl_at HPx.out s HKs.out).mono ?_
        rintro e w' ⟨rfl, hw⟩
        obtain rfl := hw.symm
        clear hw
        go_wp2_with fail
        refine (pl_rat HPx.out s).mono ?_
        rintro e w' ⟨rfl, hw⟩
        obtain rfl := hw.symm
        clear hw
        generalize (atK L3 s : Int) = va
        generalize hasK L3 s = vb
        obtain ⟨ad3, cap3, hl3, hr3⟩ := HPx.out.list
        have ht3 := HPx.out.time
        have HSm : Hid (∀ W x y, Gr wB W → RowAt tmf W x L3 → Calls Tryd.prog 16 #[.slice x (L3).length y, .slice ad3 (L3).length cap3] W fun e w' => e = .returned (.bool true) ∧ Gr W w') := fun W x y g rr => same_eq L3 x ad3 y cap3 W rr (hr3.gr g) (by have := HPx.out.ok2.few; omega)
        have HNw : Hid (∀ W, Gr wB W → Calls Tryd.prog 23 #[ptr b] W fun e w' => e = .returned (.int .i64 (t1 : Int)) ∧ w' = W) := fun W g => pl_now (HPx.out.gr g)
        have HAl : Hid (∀ W, Gr wB W → Calls Tryd.prog 24 #[ptr b] W fun e w' => ∃ x y, e = .returned (.slice x (L3).length y) ∧ RowAt tmf w' x L3 ∧ Gr W w') := fun W g => pl_all (HPx.out.gr g)
        have HSt : Hid (∀ W, Gr wB W → Gr wB W ∧ W.cell? ⟨r, 0, none⟩ = some (.int .i64 (t1 : Int)) ∧ W.cell? ⟨r, 1, none⟩ = some (.slice ad3 (L3).length cap3)) := fun W g => ⟨g, g.keep ht3, g.keep hl3⟩
        clear ht3 hl3 hr3 hb1
        go_upto_region 24 with fail
        refine wp_region_held_drew (S := (fun w' => Gr wB w' ∧ w'.cell? ⟨r, 0, none⟩ = some (.int .i64 (t1 : Int)) ∧ w'.cell? ⟨r, 1, none⟩ = some (.slice ad3 (L3).length cap3))) (by kernel_rfl) (by first | with_reducible exact hHeld | with_reducible exact HSt.out _ (Gr.refl _).drew | with_reducible exact HSt.out _ (hHeld.1.trans hg14) | with_reducible exact HSt.out _ (hHeld.1.trans hg15)) (fun hHeld => ?_)
        refine take_yes 0 139 (v := ?_) rfl rfl (by kernel_rfl) (by kernel_rfl) (by kernel_rfl) (fun _ _ _ h => h) (by rfl) ?_ hHeld ?_
        rotate_left
        · (intro w hSw; (try dsimp only at hSw); go_simp; try with_reducible rfl)
        simp only [Act.put, List.setIfInBounds_toArray, List.set_cons_zero, List.set_cons_succ]
        refine take_yes 1 140 (v := ?_) rfl rfl (by kernel_rfl) (by kernel_rfl) (by kernel_rfl) (fun _ _ _ h => h) (by rfl) ?_ hHeld ?_
        rotate_left
        · (intro w hSw; (try dsimp only at hSw); go_simp; try with_reducible rfl)
        simp only [Act.put, List.setIfInBounds_toArray, List.set_cons_zero, List.set_cons_succ]
        refine take_yes 2 141 (v := ?_) rfl rfl (by kernel_rfl) (by kernel_rfl) (by kernel_rfl) (fun _ _ _ h => h) (by rfl) ?_ hHeld ?_
        rotate_left
        · (intro w hSw; (try dsimp only at hSw); go_simp; try with_reducible rfl)
        simp only [Act.put, List.setIfInBounds_toArray, List.set_cons_zero, List.set_cons_succ]
        refine take_yes 3 142 (v := ?_) rfl rfl (by kernel_rfl) (by kernel_rfl) (by kernel_rfl) (fun _ _ _ h => h) (by rfl) ?_ hHeld ?_
        rotate_left
        · (intro w hSw; (try dsimp only at hSw); go_simp; try with_reducible rfl)
        simp only [Act.put, List.setIfInBounds_toArray, List.set_cons_zero, List.set_cons_succ]
        refine take_yes 5 144 (v := ?_) rfl rfl (by kernel_rfl) (by kernel_rfl) (by kernel_rfl) (fun _ _ _ h => h) (by rfl) ?_ hHeld ?_
        rotate_left
        · (intro w hSw; (try dsimp only at hSw); go_simp; try with_reducible rfl)
        simp only [Act.put, List.setIfInBounds_toArray, List.set_cons_zero, List.set_cons_succ]
        refine take_yes 6 145 (v := ?_) rfl rfl (by kernel_rfl) (by kernel_rfl) (by kernel_rfl) (fun _ _ _ h => h) (by rfl) ?_ hHeld ?_
        rotate_left
        · (intro w hSw; (try dsimp only at hSw); go_simp; try with_reducible rfl)
        simp only [Act.put, List.setIfInBounds_toArray, List.set_cons_zero, List.set_cons_succ]
        refine take_yes 7 146 (v := ?_) rfl rfl (by kernel_rfl) (by kernel_rfl) (by kernel_rfl) (fun _ _ _ h => h) (by rfl) ?_ hHeld ?_
        rotate_left
        · (intro w hSw; (try dsimp only at hSw); go_simp; try with_reducible rfl)
        simp only [Act.put, List.setIfInBounds_toArray, List.set_cons_zero, List.set_cons_succ]
        refine take_yes 8 147 (v := ?_) rfl rfl (by kernel_rfl) (by kernel_rfl) (by kernel_rfl) (fun _ _ _ h => h) (by rfl) ?_ hHeld ?_
        rotate_left
        · (intro w hSw; (try dsimp only at hSw); go_simp; try with_reducible rfl)
        simp only [Act.put, List.setIfInBounds_toArray, List.set_cons_zero, List.set_cons_succ]
        refine wpAnyH_ready (rs := [4]) (by kernel_rfl) (by simp) (AllReadyH.cons rfl (fun K hK => ?_) AllReadyH.nil)
        go_simp
        (go_at_call 23; refine (HNw.out _ hHeld.1).mono ?_; rintro e w' ⟨rfl, hw⟩; obtain rfl := hw.symm; clear hw)
        (try go_wp2_with fail)
        refine hK.out _ _ (by first | with_reducible exact hHeld | with_reducible exact HSt.out _ (Gr.refl _).drew | with_reducible exact HSt.out _ (hHeld.1.trans hg14) | with_reducible exact HSt.out _ (hHeld.1.trans hg15)) (fun hHeldN => ?_)
        clear hHeld hK K
        have hHeld := hHeldN
        clear hHeldN
        refine take_yes 9 148 (v := ?_) rfl rfl (by kernel_rfl) (by kernel_rfl) (by kernel_rfl) (fun _ _ _ h => h) (by rfl) ?_ hHeld ?_
        rotate_left
        · (intro w hSw; (try dsimp only at hSw); go_simp; try with_reducible rfl)
        simp only [Act.put, List.setIfInBounds_toArray, List.set_cons_zero, List.set_cons_succ]
        refine take_yes 10 149 (v := ?_) rfl rfl (by kernel_rfl) (by kernel_rfl) (by kernel_rfl) (fun _ _ _ h => h) (by rfl) ?_ hHeld ?_
        rotate_left
        · (intro w hSw; (try dsimp only at hSw); go_simp; try with_reducible rfl)
        simp only [Act.put, List.setIfInBounds_toArray, List.set_cons_zero, List.set_cons_succ]
        refine take_yes 11 150 (v := ?_) rfl rfl (by kernel_rfl) (by kernel_rfl) (by kernel_rfl) (fun _ _ _ h => h) (by rfl) ?_ hHeld ?_
        rotate_left
        · (intro w hSw; (try dsimp only at hSw); go_simp; try with_reducible rfl)
        simp only [Act.put, List.setIfInBounds_toArray, List.set_cons_zero, List.set_cons_succ]
        refine take_yes 12 151 (v := ?_) rfl rfl (by kernel_rfl) (by kernel_rfl) (by kernel_rfl) (fun _ _ _ h => h) (by rfl) ?_ hHeld ?_
        rotate_left
        · (intro w hSw; (try dsimp only at hSw); go_simp; try with_reducible rfl)
        simp only [Act.put, List.setIfInBounds_toArray, List.set_cons_zero, List.set_cons_succ]
        refine take_yes 14 153 (v := ?_) rfl rfl (by kernel_rfl) (by kernel_rfl) (by kernel_rfl) (fun _ _ _ h => h) (by rfl) ?_ hHeld ?_
        rotate_left
        · (intro w hSw; (try dsimp only at hSw); go_simp; try with_reducible rfl)
        simp only [Act.put, List.setIfInBounds_toArray, List.set_cons_zero, List.set_cons_succ]
        refine take_yes 15 154 (v := ?_) rfl rfl (by kernel_rfl) (by kernel_rfl) (by kernel_rfl) (fun _ _ _ h => h) (by rfl) ?_ hHeld ?_
        rotate_left
        · (intro w hSw; (try dsimp only at hSw); go_simp; try with_reducible rfl)
        simp only [Act.put, List.setIfInBounds_toArray, List.set_cons_zero, List.set_cons_succ]
        refine take_yes 16 155 (v := ?_) rfl rfl (by kernel_rfl) (by kernel_rfl) (by kernel_rfl) (fun _ _ _ h => h) (by rfl) ?_ hHeld ?_
        rotate_left
        · (intro w hSw; (try dsimp only at hSw); go_simp; try with_reducible rfl)
        simp only [Act.put, List.setIfInBounds_toArray, List.set_cons_zero, List.set_cons_succ]
        refine take_yes 17 156 (v := ?_) rfl rfl (by kernel_rfl) (by kernel_rfl) (by kernel_rfl) (fun _ _ _ h => h) (by rfl) ?_ hHeld ?_
        rotate_left
        · (intro w hSw; (try dsimp only at hSw); go_simp; try with_reducible rfl)
        simp only [Act.put, List.setIfInBounds_toArray, List.set_cons_zero, List.set_cons_succ]
        refine wpAnyH_ready (rs := [13]) (by kernel_rfl) (by simp) (AllReadyH.cons rfl (fun K hK => ?_) AllReadyH.nil)
        go_simp
        (go_at_call 24; refine (HAl.out _ hHeld.1).mono ?_; rintro e w14 ⟨x14, y14, rfl, hr14, hg14⟩)
        (try go_wp2_with fail)
        refine hK.out _ _ (by first | with_reducible exact hHeld | with_reducible exact HSt.out _ (Gr.refl _).drew | with_reducible exact HSt.out _ (hHeld.1.trans hg14) | with_reducible exact HSt.out _ (hHeld.1.trans hg15)) (fun hHeldN => ?_)
        clear hHeld hK K
        have hHeld := hHeldN
        clear hHeldN
        refine wpAnyH_ready (rs := [18]) (by kernel_rfl) (by simp) (AllReadyH.cons rfl (fun K hK => ?_) AllReadyH.nil)
        go_simp
        (go_at_call 16; refine (HSm.out _ _ _ hHeld.1 hr14).mono ?_; rintro e w15 ⟨rfl, hg15⟩)
        (try go_wp2_with fail)
        refine hK.out _ _ (by first | with_reducible exact hHeld | with_reducible exact HSt.out _ (Gr.refl _).drew | with_reducible exact HSt.out _ (hHeld.1.trans hg14) | with_reducible exact HSt.out _ (hHeld.1.trans hg15)) (fun hHeldN => ?_)
        clear hHeld hK K
        have hHeld := hHeldN
        clear hHeldN
        refine take_yes 19 158 (v := ?_) rfl rfl (by kernel_rfl) (by kernel_rfl) (by kernel_rfl) (fun _ _ _ h => h) (by rfl) ?_ hHeld ?_
        rotate_left
        · (intro w hSw; (try dsimp only at hSw); go_simp; try with_reducible rfl)
        simp only [Act.put, List.setIfInBounds_toArray, List.set_cons_zero, List.set_cons_succ]
        refine take_yes 20 159 (v := ?_) rfl rfl (by kernel_rfl) (by kernel_rfl) (by kernel_rfl) (fun _ _ _ h => h) (by rfl) ?_ hHeld ?_
        rotate_left
        · (intro w hSw; (try dsimp only at hSw); go_simp; try with_reducible rfl)
        simp only [Act.put, List.setIfInBounds_toArray, List.set_cons_zero, List.set_cons_succ]
        refine take_yes 21 160 (v := ?_) rfl rfl (by kernel_rfl) (by kernel_rfl) (by kernel_rfl) (fun _ _ _ h => h) (by rfl) ?_ hHeld ?_
        rotate_left
        · (intro w hSw; (try dsimp only at hSw); go_simp; try with_reducible rfl)
        simp only [Act.put, List.setIfInBounds_toArray, List.set_cons_zero, List.set_cons_succ]
        refine take_yes 22 161 (v := ?_) rfl rfl (by kernel_rfl) (by kernel_rfl) (by kernel_rfl) (fun _ _ _ h => h) (by rfl) ?_ hHeld ?_
        rotate_left
        · (intro w hSw; (try dsimp only at hSw); go_simp; try with_reducible rfl)
        simp only [Act.put, List.setIfInBounds_toArray, List.set_cons_zero, List.set_cons_succ]
        refine take_yes 23 162 (v := ?_) rfl rfl (by kernel_rfl) (by kernel_rfl) (by kernel_rfl) (fun _ _ _ h => h) (by rfl) ?_ hHeld ?_
        rotate_left
        · (intro w hSw; (try dsimp only at hSw); go_simp; try with_reducible rfl)
        simp only [Act.put, List.setIfInBounds_toArray, List.set_cons_zero, List.set_cons_succ]
        refine take_yes 24 163 (v := ?_) rfl rfl (by kernel_rfl) (by kernel_rfl) (by kernel_rfl) (fun _ _ _ h => h) (by rfl) ?_ hHeld ?_
        rotate_left
        · (intro w hSw; (try dsimp only at hSw); go_simp; try with_reducible rfl)
        simp only [Act.put, List.setIfInBounds_toArray, List.set_cons_zero, List.set_cons_succ]
        refine take_yes 25 164 (v := ?_) rfl rfl (by kernel_rfl) (by kernel_rfl) (by kernel_rfl) (fun _ _ _ h => h) (by rfl) ?_ hHeld ?_
        rotate_left
        · (intro w hSw; (try dsimp only at hSw); go_simp; try with_reducible rfl)
        simp only [Act.put, List.setIfInBounds_toArray, List.set_cons_zero, List.set_cons_succ]
        refine take_yes 26 165 (v := ?_) rfl rfl (by kernel_rfl) (by kernel_rfl) (by kernel_rfl) (fun _ _ _ h => h) (by rfl) ?_ hHeld ?_
        rotate_left
        · (intro w hSw; (try dsimp only at hSw); go_simp; try with_reducible rfl)
        simp only [Act.put, List.setIfInBounds_toArray, List.set_cons_zero, List.set_cons_succ]
        refine take_yes 27 166 (v := ?_) rfl rfl (by kernel_rfl) (by kernel_rfl) (by kernel_rfl) (fun _ _ _ h => h) (by rfl) ?_ hHeld ?_
        rotate_left
        · (intro w hSw; (try dsimp only at hSw); go_simp; try with_reducible rfl)
        simp only [Act.put, List.setIfInBounds_toArray, List.set_cons_zero, List.set_cons_succ]
        refine take_yes 28 167 (v := ?_) rfl rfl (by kernel_rfl) (by kernel_rfl) (by kernel_rfl) (fun _ _ _ h => h) (by rfl) ?_ hHeld ?_
        rotate_left
        · (intro w hSw; (try dsimp only at hSw); go_simp; try with_reducible rfl)
        simp only [Act.put, List.setIfInBounds_toArray, List.set_cons_zero, List.set_cons_succ]
        refine take_yes 29 168 (v := ?_) rfl rfl (by kernel_rfl) (by kernel_rfl) (by kernel_rfl) (fun _ _ _ h => h) (by rfl) ?_ hHeld ?_
        rotate_left
        · (intro w hSw; (try dsimp only at hSw); go_simp; try with_reducible rfl)
        simp only [Act.put, List.setIfInBounds_toArray, List.set_cons_zero, List.set_cons_succ]
        refine take_yes 30 169 (v := ?_) rfl rfl (by kernel_rfl) (by kernel_rfl) (by kernel_rfl) (fun _ _ _ h => h) (by rfl) ?_ hHeld ?_
        rotate_left
        · (intro w hSw; (try dsimp only at hSw); go_simp; try with_reducible rfl)
        simp only [Act.put, List.setIfInBounds_toArray, List.set_cons_zero, List.set_cons_succ]
        refine wpAnyH_done (by kernel_rfl) ?_ _
        have HPy := Lib.hid ((HPx.out.gr hHeld.1).forget)
        clear hHeld hg14 hg15 hr14 HSt HAl HNw HSm HPx
        go_wp2
        go_roundw
        case rel => exact ⟨k + 1, _, _, by omega, by simp, HPy.out⟩
        case measure => simp [intOf]; omega
      by_cases hk1 : tk = 1
      · subst hk1
        have HPb : Hid (Pl w (wr.alloc (.cells #[.int .i64 1, .string s, .int .i64 n] 33)) b m t1 L r t1 L (some (wr.heap.size, s, n))) := HP.out.open (Gr.refl wr).alloc rfl (by simp) (by simp)

        have HDr : Hid (∀ W, Pl w W b m t1 L r t1 L (some (wr.heap.size, s, n)) → Calls Tryd.prog 14 #[ptr b, .string s] W fun e w2 => e = .returned (.bool (hasK L s)) ∧ Pl w w2 b m t1 (del L s) r t1 L (some (wr.heap.size, s, n))) := fun W h => pl_drop h s HKs.out
        have HRd : Hid (∀ W, Pl w W b m t1 (del L s) r t1 L (some (wr.heap.size, s, n)) → Calls Tryd.prog 15 #[ptr r, .string s] W fun e w2 => e = .returned (.bool (hasK L s)) ∧ Pl w w2 b m t1 (del L s) r t1 (del L s) (some (wr.heap.size, s, n))) := fun W h => pl_rdrop h s
        have HS : Hid (∀ W X Y, Pl w W b m t1 X r t1 Y (some (wr.heap.size, s, n)) → W.cell? ⟨wr.heap.size, 1, none⟩ = some (.string s)) := fun W X Y h => h.box.1
        generalize hasK L s = se at *
        generalize del L s = L3 at *
        go_upto_region 19 with fail

        obtain ⟨W1, hW1⟩ : ∃ W, W = wr.alloc (.cells #[.int .i64 1, .string s, .int .i64 n] 33) := ⟨_, rfl⟩
        rw [← hW1] at HPb ⊢
        clear hW1

        refine wp_region_held_drew (S := (fun w' => w'.cell? ⟨wr.heap.size, 1, none⟩ = some (.string s))) (by kernel_rfl) (by first | with_reducible exact hHeld | with_reducible exact HS.out _ _ _ (HPb.out.gr (Gr.refl _).drew) | with_reducible exact HS.out _ _ _ hp2 | with_reducible exact HS.out _ _ _ hp3) (fun hHeld => ?_)
        refine take_yes 0 109 (v := ?_) rfl rfl (by kernel_rfl) (by kernel_rfl) (by kernel_rfl) (fun _ _ _ h => h) (by rfl) ?_ hHeld ?_
        rotate_left
        · (intro w hSw; (try dsimp only at hSw); go_simp; try with_reducible rfl)
        simp only [Act.put, List.setIfInBounds_toArray, List.set_cons_zero, List.set_cons_succ]
        refine take_yes 1 110 (v := ?_) rfl rfl (by kernel_rfl) (by kernel_rfl) (by kernel_rfl) (fun _ _ _ h => h) (by rfl) ?_ hHeld ?_
        rotate_left
        · (intro w hSw; (try dsimp only at hSw); go_simp; try with_reducible rfl)
        simp only [Act.put, List.setIfInBounds_toArray, List.set_cons_zero, List.set_cons_succ]
        refine take_yes 2 111 (v := ?_) rfl rfl (by kernel_rfl) (by kernel_rfl) (by kernel_rfl) (fun _ _ _ h => h) (by rfl) ?_ hHeld ?_
        rotate_left
        · (intro w hSw; (try dsimp only at hSw); go_simp; try with_reducible rfl)
        simp only [Act.put, List.setIfInBounds_toArray, List.set_cons_zero, List.set_cons_succ]
        refine take_yes 4 113 (v := ?_) rfl rfl (by kernel_rfl) (by kernel_rfl) (by kernel_rfl) (fun _ _ _ h => h) (by rfl) ?_ hHeld ?_
        rotate_left
        · (intro w hSw; (try dsimp only at hSw); go_simp; try with_reducible rfl)
        simp only [Act.put, List.setIfInBounds_toArray, List.set_cons_zero, List.set_cons_succ]
        refine take_yes 5 114 (v := ?_) rfl rfl (by kernel_rfl) (by kernel_rfl) (by kernel_rfl) (fun _ _ _ h => h) (by rfl) ?_ hHeld ?_
        rotate_left
        · (intro w hSw; (try dsimp only at hSw); go_simp; try with_reducible rfl)
        simp only [Act.put, List.setIfInBounds_toArray, List.set_cons_zero, List.set_cons_succ]
        refine take_yes 6 115 (v := ?_) rfl rfl (by kernel_rfl) (by kernel_rfl) (by kernel_rfl) (fun _ _ _ h => h) (by rfl) ?_ hHeld ?_
        rotate_left
        · (intro w hSw; (try dsimp only at hSw); go_simp; try with_reducible rfl)
        simp only [Act.put, List.setIfInBounds_toArray, List.set_cons_zero, List.set_cons_succ]
        refine wpAnyH_ready (rs := [3]) (by kernel_rfl) (by simp) (AllReadyH.cons rfl (fun K hK => ?_) AllReadyH.nil)
        go_simp
        (go_at_call 14; refine (HDr.out _ (HPb.out.gr (Gr.refl _).drew)).mono ?_; rintro e wA ⟨rfl, hp2⟩)
        (try go_wp2_with fail)
        refine hK.out _ _ (by first | with_reducible exact hHeld | with_reducible exact HS.out _ _ _ (HPb.out.gr (Gr.refl _).drew) | with_reducible exact HS.out _ _ _ hp2 | with_reducible exact HS.out _ _ _ hp3) (fun hHeldN => ?_)
        clear hHeld hK K
        have hHeld := hHeldN
        clear hHeldN
        refine wpAnyH_ready (rs := [7]) (by kernel_rfl) (by simp) (AllReadyH.cons rfl (fun K hK => ?_) AllReadyH.nil)
        go_simp
        (go_at_call 15; refine (HRd.out _ hp2).mono ?_; rintro e wB ⟨rfl, hp3⟩)
        (try go_wp2_with fail)
        refine hK.out _ _ (by first | with_reducible exact hHeld | with_reducible exact HS.out _ _ _ (HPb.out.gr (Gr.refl _).drew) | with_reducible exact HS.out _ _ _ hp2 | with_reducible exact HS.out _ _ _ hp3) (fun hHeldN => ?_)
        clear hHeld hK K
        have hHeld := hHeldN
        clear hHeldN
        refine take_yes 8 117 (v := ?_) rfl rfl (by kernel_rfl) (by kernel_rfl) (by kernel_rfl) (fun _ _ _ h => h) (by rfl) ?_ hHeld ?_
        rotate_left
        · (intro w hSw; (try dsimp only at hSw); go_simp; try with_reducible rfl)
        simp only [Act.put, List.setIfInBounds_toArray, List.set_cons_zero, List.set_cons_succ]
        refine take_yes 9 11 (v := ?_) rfl rfl (by kernel_rfl) (by kernel_rfl) (by kernel_rfl) (fun _ _ _ h => h) (by rfl) ?_ hHeld ?_
        rotate_left
        · (intro w hSw; (try dsimp only at hSw); go_simp; try with_reducible rfl)
        simp only [Act.put, List.setIfInBounds_toArray, List.set_cons_zero, List.set_cons_succ]
        refine wpAnyH_done (by kernel_rfl) ?_ _
        have HPx := Lib.hid hp3
        clear hHeld hp2 hp3 HPb HS HRd HDr d1 d2 d0

        have hb1 := HPx.out.box.1
        go_wp2_with fail
        refine (pl_at HPx.out s HKs.out).mono ?_
        rintro e w' ⟨rfl, hw⟩
        obtain rfl := hw.symm
        clear hw
        go_wp2_with fail
        refine (pl_rat HPx.out s).mono ?_
        rintro e w' ⟨rfl, hw⟩
        obtain rfl := hw.symm
        clear hw
        generalize (atK L3 s : Int) = va
        generalize hasK L3 s = vb
        obtain ⟨ad3, cap3, hl3, hr3⟩ := HPx.out.list
        have ht3 := HPx.out.time
        have HSm : Hid (∀ W x y, Gr wB W → RowAt tmf W x L3 → Calls Tryd.prog 16 #[.slice x (L3).length y, .slice ad3 (L3).length cap3] W fun e w' => e = .returned (.bool true) ∧ Gr W w') := fun W x y g rr => same_eq L3 x ad3 y cap3 W rr (hr3.gr g) (by have := HPx.out.ok2.few; omega)
        have HNw : Hid (∀ W, Gr wB W → Calls Tryd.prog 23 #[ptr b] W fun e w' => e = .returned (.int .i64 (t1 : Int)) ∧ w' = W) := fun W g => pl_now (HPx.out.gr g)
        have HAl : Hid (∀ W, Gr wB W → Calls Tryd.prog 24 #[ptr b] W fun e w' => ∃ x y, e = .returned (.slice x (L3).length y) ∧ RowAt tmf w' x L3 ∧ Gr W w') := fun W g => pl_all (HPx.out.gr g)
        have HSt : Hid (∀ W, Gr wB W → Gr wB W ∧ W.cell? ⟨r, 0, none⟩ = some (.int .i64 (t1 : Int)) ∧ W.cell? ⟨r, 1, none⟩ = some (.slice ad3 (L3).length cap3)) := fun W g => ⟨g, g.keep ht3, g.keep hl3⟩
        clear ht3 hl3 hr3 hb1
        go_upto_region 24 with fail
        refine wp_region_held_drew (S := (fun w' => Gr wB w' ∧ w'.cell? ⟨r, 0, none⟩ = some (.int .i64 (t1 : Int)) ∧ w'.cell? ⟨r, 1, none⟩ = some (.slice ad3 (L3).length cap3))) (by kernel_rfl) (by first | with_reducible exact hHeld | with_reducible exact HSt.out _ (Gr.refl _).drew | with_reducible exact HSt.out _ (hHeld.1.trans hg14) | with_reducible exact HSt.out _ (hHeld.1.trans hg15)) (fun hHeld => ?_)
        refine take_yes 0 139 (v := ?_) rfl rfl (by kernel_rfl) (by kernel_rfl) (by kernel_rfl) (fun _ _ _ h => h) (by rfl) ?_ hHeld ?_
        rotate_left
        · (intro w hSw; (try dsimp only at hSw); go_simp; try with_reducible rfl)
        simp only [Act.put, List.setIfInBounds_toArray, List.set_cons_zero, List.set_cons_succ]
        refine take_yes 1 140 (v := ?_) rfl rfl (by kernel_rfl) (by kernel_rfl) (by kernel_rfl) (fun _ _ _ h => h) (by rfl) ?_ hHeld ?_
        rotate_left
        · (intro w hSw; (try dsimp only at hSw); go_simp; try with_reducible rfl)
        simp only [Act.put, List.setIfInBounds_toArray, List.set_cons_zero, List.set_cons_succ]
        refine take_yes 2 141 (v := ?_) rfl rfl (by kernel_rfl) (by kernel_rfl) (by kernel_rfl) (fun _ _ _ h => h) (by rfl) ?_ hHeld ?_
        rotate_left
        · (intro w hSw; (try dsimp only at hSw); go_simp; try with_reducible rfl)
        simp only [Act.put, List.setIfInBounds_toArray, List.set_cons_zero, List.set_cons_succ]
        refine take_yes 3 142 (v := ?_) rfl rfl (by kernel_rfl) (by kernel_rfl) (by kernel_rfl) (fun _ _ _ h => h) (by rfl) ?_ hHeld ?_
        rotate_left
        · (intro w hSw; (try dsimp only at hSw); go_simp; try with_reducible rfl)
        simp only [Act.put, List.setIfInBounds_toArray, List.set_cons_zero, List.set_cons_succ]
        refine take_yes 5 144 (v := ?_) rfl rfl (by kernel_rfl) (by kernel_rfl) (by kernel_rfl) (fun _ _ _ h => h) (by rfl) ?_ hHeld ?_
        rotate_left
        · (intro w hSw; (try dsimp only at hSw); go_simp; try with_reducible rfl)
        simp only [Act.put, List.setIfInBounds_toArray, List.set_cons_zero, List.set_cons_succ]
        refine take_yes 6 145 (v := ?_) rfl rfl (by kernel_rfl) (by kernel_rfl) (by kernel_rfl) (fun _ _ _ h => h) (by rfl) ?_ hHeld ?_
        rotate_left
        · (intro w hSw; (try dsimp only at hSw); go_simp; try with_reducible rfl)
        simp only [Act.put, List.setIfInBounds_toArray, List.set_cons_zero, List.set_cons_succ]
        refine take_yes 7 146 (v := ?_) rfl rfl (by kernel_rfl) (by kernel_rfl) (by kernel_rfl) (fun _ _ _ h => h) (by rfl) ?_ hHeld ?_
        rotate_left
        · (intro w hSw; (try dsimp only at hSw); go_simp; try with_reducible rfl)
        simp only [Act.put, List.setIfInBounds_toArray, List.set_cons_zero, List.set_cons_succ]
        refine take_yes 8 147 (v := ?_) rfl rfl (by kernel_rfl) (by kernel_rfl) (by kernel_rfl) (fun _ _ _ h => h) (by rfl) ?_ hHeld ?_
        rotate_left
        · (intro w hSw; (try dsimp only at hSw); go_simp; try with_reducible rfl)
        simp only [Act.put, List.setIfInBounds_toArray, List.set_cons_zero, List.set_cons_succ]
        refine wpAnyH_ready (rs := [4]) (by kernel_rfl) (by simp) (AllReadyH.cons rfl (fun K hK => ?_) AllReadyH.nil)
        go_simp
        (go_at_call 23; refine (HNw.out _ hHeld.1).mono ?_; rintro e w' ⟨rfl, hw⟩; obtain rfl := hw.symm; clear hw)
        (try go_wp2_with fail)
        refine hK.out _ _ (by first | with_reducible exact hHeld | with_reducible exact HSt.out _ (Gr.refl _).drew | with_reducible exact HSt.out _ (hHeld.1.trans hg14) | with_reducible exact HSt.out _ (hHeld.1.trans hg15)) (fun hHeldN => ?_)
        clear hHeld hK K
        have hHeld := hHeldN
        clear hHeldN
        refine take_yes 9 148 (v := ?_) rfl rfl (by kernel_rfl) (by kernel_rfl) (by kernel_rfl) (fun _ _ _ h => h) (by rfl) ?_ hHeld ?_
        rotate_left
        · (intro w hSw; (try dsimp only at hSw); go_simp; try with_reducible rfl)
        simp only [Act.put, List.setIfInBounds_toArray, List.set_cons_zero, List.set_cons_succ]
        refine take_yes 10 149 (v := ?_) rfl rfl (by kernel_rfl) (by kernel_rfl) (by kernel_rfl) (fun _ _ _ h => h) (by rfl) ?_ hHeld ?_
        rotate_left
        · (intro w hSw; (try dsimp only at hSw); go_simp; try with_reducible rfl)
        simp only [Act.put, List.setIfInBounds_toArray, List.set_cons_zero, List.set_cons_succ]
        refine take_yes 11 150 (v := ?_) rfl rfl (by kernel_rfl) (by kernel_rfl) (by kernel_rfl) (fun _ _ _ h => h) (by rfl) ?_ hHeld ?_
        rotate_left
        · (intro w hSw; (try dsimp only at hSw); go_simp; try with_reducible rfl)
        simp only [Act.put, List.setIfInBounds_toArray, List.set_cons_zero, List.set_cons_succ]
        refine take_yes 12 151 (v := ?_) rfl rfl (by kernel_rfl) (by kernel_rfl) (by kernel_rfl) (fun _ _ _ h => h) (by rfl) ?_ hHeld ?_
        rotate_left
        · (intro w hSw; (try dsimp only at hSw); go_simp; try with_reducible rfl)
        simp only [Act.put, List.setIfInBounds_toArray, List.set_cons_zero, List.set_cons_succ]
        refine take_yes 14 153 (v := ?_) rfl rfl (by kernel_rfl) (by kernel_rfl) (by kernel_rfl) (fun _ _ _ h => h) (by rfl) ?_ hHeld ?_
        rotate_left
        · (intro w hSw; (try dsimp only at hSw); go_simp; try with_reducible rfl)
        simp only [Act.put, List.setIfInBounds_toArray, List.set_cons_zero, List.set_cons_succ]
        refine take_yes 15 154 (v := ?_) rfl rfl (by kernel_rfl) (by kernel_rfl) (by kernel_rfl) (fun _ _ _ h => h) (by rfl) ?_ hHeld ?_
        rotate_left
        · (intro w hSw; (try dsimp only at hSw); go_simp; try with_reducible rfl)
        simp only [Act.put, List.setIfInBounds_toArray, List.set_cons_zero, List.set_cons_succ]
        refine take_yes 16 155 (v := ?_) rfl rfl (by kernel_rfl) (by kernel_rfl) (by kernel_rfl) (fun _ _ _ h => h) (by rfl) ?_ hHeld ?_
        rotate_left
        · (intro w hSw; (try dsimp only at hSw); go_simp; try with_reducible rfl)
        simp only [Act.put, List.setIfInBounds_toArray, List.set_cons_zero, List.set_cons_succ]
        refine take_yes 17 156 (v := ?_) rfl rfl (by kernel_rfl) (by kernel_rfl) (by kernel_rfl) (fun _ _ _ h => h) (by rfl) ?_ hHeld ?_
        rotate_left
        · (intro w hSw; (try dsimp only at hSw); go_simp; try with_reducible rfl)
        simp only [Act.put, List.setIfInBounds_toArray, List.set_cons_zero, List.set_cons_succ]
        refine wpAnyH_ready (rs := [13]) (by kernel_rfl) (by simp) (AllReadyH.cons rfl (fun K hK => ?_) AllReadyH.nil)
        go_simp
        (go_at_call 24; refine (HAl.out _ hHeld.1).mono ?_; rintro e w14 ⟨x14, y14, rfl, hr14, hg14⟩)
        (try go_wp2_with fail)
        refine hK.out _ _ (by first | with_reducible exact hHeld | with_reducible exact HSt.out _ (Gr.refl _).drew | with_reducible exact HSt.out _ (hHeld.1.trans hg14) | with_reducible exact HSt.out _ (hHeld.1.trans hg15)) (fun hHeldN => ?_)
        clear hHeld hK K
        have hHeld := hHeldN
        clear hHeldN
        refine wpAnyH_ready (rs := [18]) (by kernel_rfl) (by simp) (AllReadyH.cons rfl (fun K hK => ?_) AllReadyH.nil)
        go_simp
        (go_at_call 16; refine (HSm.out _ _ _ hHeld.1 hr14).mono ?_; rintro e w15 ⟨rfl, hg15⟩)
        (try go_wp2_with fail)
        refine hK.out _ _ (by first | with_reducible exact hHeld | with_reducible exact HSt.out _ (Gr.refl _).drew | with_reducible exact HSt.out _ (hHeld.1.trans hg14) | with_reducible exact HSt.out _ (hHeld.1.trans hg15)) (fun hHeldN => ?_)
        clear hHeld hK K
        have hHeld := hHeldN
        clear hHeldN
        refine take_yes 19 158 (v := ?_) rfl rfl (by kernel_rfl) (by kernel_rfl) (by kernel_rfl) (fun _ _ _ h => h) (by rfl) ?_ hHeld ?_
        rotate_left
        · (intro w hSw; (try dsimp only at hSw); go_simp; try with_reducible rfl)
        simp only [Act.put, List.setIfInBounds_toArray, List.set_cons_zero, List.set_cons_succ]
        refine take_yes 20 159 (v := ?_) rfl rfl (by kernel_rfl) (by kernel_rfl) (by kernel_rfl) (fun _ _ _ h => h) (by rfl) ?_ hHeld ?_
        rotate_left
        · (intro w hSw; (try dsimp only at hSw); go_simp; try with_reducible rfl)
        simp only [Act.put, List.setIfInBounds_toArray, List.set_cons_zero, List.set_cons_succ]
        refine take_yes 21 160 (v := ?_) rfl rfl (by kernel_rfl) (by kernel_rfl) (by kernel_rfl) (fun _ _ _ h => h) (by rfl) ?_ hHeld ?_
        rotate_left
        · (intro w hSw; (try dsimp only at hSw); go_simp; try with_reducible rfl)
        simp only [Act.put, List.setIfInBounds_toArray, List.set_cons_zero, List.set_cons_succ]
        refine take_yes 22 161 (v := ?_) rfl rfl (by kernel_rfl) (by kernel_rfl) (by kernel_rfl) (fun _ _ _ h => h) (by rfl) ?_ hHeld ?_
        rotate_left
        · (intro w hSw; (try dsimp only at hSw); go_simp; try with_reducible rfl)
        simp only [Act.put, List.setIfInBounds_toArray, List.set_cons_zero, List.set_cons_succ]
        refine take_yes 23 162 (v := ?_) rfl rfl (by kernel_rfl) (by kernel_rfl) (by kernel_rfl) (fun _ _ _ h => h) (by rfl) ?_ hHeld ?_
        rotate_left
        · (intro w hSw; (try dsimp only at hSw); go_simp; try with_reducible rfl)
        simp only [Act.put, List.setIfInBounds_toArray, List.set_cons_zero, List.set_cons_succ]
        refine take_yes 24 163 (v := ?_) rfl rfl (by kernel_rfl) (by kernel_rfl) (by kernel_rfl) (fun _ _ _ h => h) (by rfl) ?_ hHeld ?_
        rotate_left
        · (intro w hSw; (try dsimp only at hSw); go_simp; try with_reducible rfl)
        simp only [Act.put, List.setIfInBounds_toArray, List.set_cons_zero, List.set_cons_succ]
        refine take_yes 25 164 (v := ?_) rfl rfl (by kernel_rfl) (by kernel_rfl) (by kernel_rfl) (fun _ _ _ h => h) (by rfl) ?_ hHeld ?_
        rotate_left
        · (intro w hSw; (try dsimp only at hSw); go_simp; try with_reducible rfl)
        simp only [Act.put, List.setIfInBounds_toArray, List.set_cons_zero, List.set_cons_succ]
        refine take_yes 26 165 (v := ?_) rfl rfl (by kernel_rfl) (by kernel_rfl) (by kernel_rfl) (fun _ _ _ h => h) (by rfl) ?_ hHeld ?_
        rotate_left
        · (intro w hSw; (try dsimp only at hSw); go_simp; try with_reducible rfl)
        simp only [Act.put, List.setIfInBounds_toArray, List.set_cons_zero, List.set_cons_succ]
        refine take_yes 27 166 (v := ?_) rfl rfl (by kernel_rfl) (by kernel_rfl) (by kernel_rfl) (fun _ _ _ h => h) (by rfl) ?_ hHeld ?_
        rotate_left
        · (intro w hSw; (try dsimp only at hSw); go_simp; try with_reducible rfl)
        simp only [Act.put, List.setIfInBounds_toArray, List.set_cons_zero, List.set_cons_succ]
        refine take_yes 28 167 (v := ?_) rfl rfl (by kernel_rfl) (by kernel_rfl) (by kernel_rfl) (fun _ _ _ h => h) (by rfl) ?_ hHeld ?_
        rotate_left
        · (intro w hSw; (try dsimp only at hSw); go_simp; try with_reducible rfl)
        simp only [Act.put, List.setIfInBounds_toArray, List.set_cons_zero, List.set_cons_succ]
        refine take_yes 29 168 (v := ?_) rfl rfl (by kernel_rfl) (by kernel_rfl) (by kernel_rfl) (fun _ _ _ h => h) (by rfl) ?_ hHeld ?_
        rotate_left
        · (intro w hSw; (try dsimp only at hSw); go_simp; try with_reducible rfl)
        simp only [Act.put, List.setIfInBounds_toArray, List.set_cons_zero, List.set_cons_succ]
        refine take_yes 30 169 (v := ?_) rfl rfl (by kernel_rfl) (by kernel_rfl) (by kernel_rfl) (fun _ _ _ h => h) (by rfl) ?_ hHeld ?_
        rotate_left
        · (intro w hSw; (try dsimp only at hSw); go_simp; try with_reducible rfl)
        simp only [Act.put, List.setIfInBounds_toArray, List.set_cons_zero, List.set_cons_succ]
        refine wpAnyH_done (by kernel_rfl) ?_ _
        have HPy := Lib.hid ((HPx.out.gr hHeld.1).forget)
        clear hHeld hg14 hg15 hr14 HSt HAl HNw HSm HPx
        go_wp2
        go_roundw
        case rel => exact ⟨k + 1, _, _, by omega, by simp, HPy.out⟩
        case measure => simp [intOf]; omega
      by_cases hk2 : tk = 2
      · subst hk2
        have HPb : Hid (Pl w (wr.alloc (.cells #[.int .i64 2, .string s, .int .i64 n] 33)) b m t1 L r t1 L (some (wr.heap.size, s, n))) := HP.out.open (Gr.refl wr).alloc rfl (by simp) (by simp)

        obtain ⟨x1, hx1⟩ : ∃ x1, x1 = min (t1 + 1) 1000000000 := ⟨_, rfl⟩
        have HLu : Hid ((upto L x1).length ≤ 9223372036854775807) := by
          have h7 : (upto L x1).length ≤ L.length := List.length_filter_le _ _
          have := HP.out.ok2.few
          show _ ≤ _; omega
        have HTk := Lib.hid (pl_tick HT.out HPb.out hx1)
        have HRt : Hid (∀ W u, Pl w W b m x1 (past L x1) r t1 L (some (wr.heap.size, s, n)) → Ans W r (upto L x1) u → Calls Tryd.prog 18 #[ptr r] W fun e w' => ∃ v, e = .returned v ∧ Both w' (upto L x1) u v ∧ Pl w w' b m x1 (past L x1) r x1 (past L x1) (some (wr.heap.size, s, n))) := fun W u h ha => pl_rtick h hx1 ha
        clear hx1
        go_wp2_with fail
        refine HTk.out.mono ?_
        rintro e wA ⟨v1, rfl, ha, hp2⟩
        have HA := Lib.hid ha
        have HP2 := Lib.hid hp2
        clear ha hp2 HTk HPb
        go_wp2_with fail
        refine (HRt.out _ _ HP2.out HA.out).mono ?_
        rintro e wB ⟨v2, rfl, ⟨y1, c1, y2, c2, rfl, rfl, r1, r2⟩, hp3⟩
        have HSe := Lib.hid (same_eq (upto L x1) y1 y2 c1 c2 wB r1 r2 HLu.out)
        have HP3 := Lib.hid hp3
        generalize upto L x1 = U at *
        generalize past L x1 = L3 at *
        clear r1 r2 hp3 HRt HP2 HA d1 d2 d0
        go_wp2_with fail
        refine HSe.out.mono ?_
        rintro e wC ⟨rfl, hgC⟩
        have HPx := Lib.hid (HP3.out.gr hgC)
        clear hgC HSe HP3 HLu

        have hb1 := HPx.out.box.1
        go_wp2_with fail
        refine (pl_at HPx.out s HKs.out).mono ?_
        rintro e w' ⟨rfl, hw⟩
        obtain rfl := hw.symm
        clear hw
        go_wp2_with fail
        refine (pl_rat HPx.out s).mono ?_
        rintro e w' ⟨rfl, hw⟩
        obtain rfl := hw.symm
        clear hw
        generalize (atK L3 s : Int) = va
        generalize hasK L3 s = vb
        obtain ⟨ad3, cap3, hl3, hr3⟩ := HPx.out.list
        have ht3 := HPx.out.time
        have HSm : Hid (∀ W x y, Gr wC W → RowAt tmf W x L3 → Calls Tryd.prog 16 #[.slice x (L3).length y, .slice ad3 (L3).length cap3] W fun e w' => e = .returned (.bool true) ∧ Gr W w') := fun W x y g rr => same_eq L3 x ad3 y cap3 W rr (hr3.gr g) (by have := HPx.out.ok2.few; omega)
        have HNw : Hid (∀ W, Gr wC W → Calls Tryd.prog 23 #[ptr b] W fun e w' => e = .returned (.int .i64 (x1 : Int)) ∧ w' = W) := fun W g => pl_now (HPx.out.gr g)
        have HAl : Hid (∀ W, Gr wC W → Calls Tryd.prog 24 #[ptr b] W fun e w' => ∃ x y, e = .returned (.slice x (L3).length y) ∧ RowAt tmf w' x L3 ∧ Gr W w') := fun W g => pl_all (HPx.out.gr g)
        have HSt : Hid (∀ W, Gr wC W → Gr wC W ∧ W.cell? ⟨r, 0, none⟩ = some (.int .i64 (x1 : Int)) ∧ W.cell? ⟨r, 1, none⟩ = some (.slice ad3 (L3).length cap3)) := fun W g => ⟨g, g.keep ht3, g.keep hl3⟩
        clear ht3 hl3 hr3 hb1
        go_upto_region 24 with fail
        refine wp_region_held_drew (S := (fun w' => Gr wC w' ∧ w'.cell? ⟨r, 0, none⟩ = some (.int .i64 (x1 : Int)) ∧ w'.cell? ⟨r, 1, none⟩ = some (.slice ad3 (L3).length cap3))) (by kernel_rfl) (by first | with_reducible exact hHeld | with_reducible exact HSt.out _ (Gr.refl _).drew | with_reducible exact HSt.out _ (hHeld.1.trans hg14) | with_reducible exact HSt.out _ (hHeld.1.trans hg15)) (fun hHeld => ?_)
        refine take_yes 0 139 (v := ?_) rfl rfl (by kernel_rfl) (by kernel_rfl) (by kernel_rfl) (fun _ _ _ h => h) (by rfl) ?_ hHeld ?_
        rotate_left
        · (intro w hSw; (try dsimp only at hSw); go_simp; try with_reducible rfl)
        simp only [Act.put, List.setIfInBounds_toArray, List.set_cons_zero, List.set_cons_succ]
        refine take_yes 1 140 (v := ?_) rfl rfl (by kernel_rfl) (by kernel_rfl) (by kernel_rfl) (fun _ _ _ h => h) (by rfl) ?_ hHeld ?_
        rotate_left
        · (intro w hSw; (try dsimp only at hSw); go_simp; try with_reducible rfl)
        simp only [Act.put, List.setIfInBounds_toArray, List.set_cons_zero, List.set_cons_succ]
        refine take_yes 2 141 (v := ?_) rfl rfl (by kernel_rfl) (by kernel_rfl) (by kernel_rfl) (fun _ _ _ h => h) (by rfl) ?_ hHeld ?_
        rotate_left
        · (intro w hSw; (try dsimp only at hSw); go_simp; try with_reducible rfl)
        simp only [Act.put, List.setIfInBounds_toArray, List.set_cons_zero, List.set_cons_succ]
        refine take_yes 3 142 (v := ?_) rfl rfl (by kernel_rfl) (by kernel_rfl) (by kernel_rfl) (fun _ _ _ h => h) (by rfl) ?_ hHeld ?_
        rotate_left
        · (intro w hSw; (try dsimp only at hSw); go_simp; try with_reducible rfl)
        simp only [Act.put, List.setIfInBounds_toArray, List.set_cons_zero, List.set_cons_succ]
        refine take_yes 5 144 (v := ?_) rfl rfl (by kernel_rfl) (by kernel_rfl) (by kernel_rfl) (fun _ _ _ h => h) (by rfl) ?_ hHeld ?_
        rotate_left
        · (intro w hSw; (try dsimp only at hSw); go_simp; try with_reducible rfl)
        simp only [Act.put, List.setIfInBounds_toArray, List.set_cons_zero, List.set_cons_succ]
        refine take_yes 6 145 (v := ?_) rfl rfl (by kernel_rfl) (by kernel_rfl) (by kernel_rfl) (fun _ _ _ h => h) (by rfl) ?_ hHeld ?_
        rotate_left
        · (intro w hSw; (try dsimp only at hSw); go_simp; try with_reducible rfl)
        simp only [Act.put, List.setIfInBounds_toArray, List.set_cons_zero, List.set_cons_succ]
        refine take_yes 7 146 (v := ?_) rfl rfl (by kernel_rfl) (by kernel_rfl) (by kernel_rfl) (fun _ _ _ h => h) (by rfl) ?_ hHeld ?_
        rotate_left
        · (intro w hSw; (try dsimp only at hSw); go_simp; try with_reducible rfl)
        simp only [Act.put, List.setIfInBounds_toArray, List.set_cons_zero, List.set_cons_succ]
        refine take_yes 8 147 (v := ?_) rfl rfl (by kernel_rfl) (by kernel_rfl) (by kernel_rfl) (fun _ _ _ h => h) (by rfl) ?_ hHeld ?_
        rotate_left
        · (intro w hSw; (try dsimp only at hSw); go_simp; try with_reducible rfl)
        simp only [Act.put, List.setIfInBounds_toArray, List.set_cons_zero, List.set_cons_succ]
        refine wpAnyH_ready (rs := [4]) (by kernel_rfl) (by simp) (AllReadyH.cons rfl (fun K hK => ?_) AllReadyH.nil)
        go_simp
        (go_at_call 23; refine (HNw.out _ hHeld.1).mono ?_; rintro e w' ⟨rfl, hw⟩; obtain rfl := hw.symm; clear hw)
        (try go_wp2_with fail)
        refine hK.out _ _ (by first | with_reducible exact hHeld | with_reducible exact HSt.out _ (Gr.refl _).drew | with_reducible exact HSt.out _ (hHeld.1.trans hg14) | with_reducible exact HSt.out _ (hHeld.1.trans hg15)) (fun hHeldN => ?_)
        clear hHeld hK K
        have hHeld := hHeldN
        clear hHeldN
        refine take_yes 9 148 (v := ?_) rfl rfl (by kernel_rfl) (by kernel_rfl) (by kernel_rfl) (fun _ _ _ h => h) (by rfl) ?_ hHeld ?_
        rotate_left
        · (intro w hSw; (try dsimp only at hSw); go_simp; try with_reducible rfl)
        simp only [Act.put, List.setIfInBounds_toArray, List.set_cons_zero, List.set_cons_succ]
        refine take_yes 10 149 (v := ?_) rfl rfl (by kernel_rfl) (by kernel_rfl) (by kernel_rfl) (fun _ _ _ h => h) (by rfl) ?_ hHeld ?_
        rotate_left
        · (intro w hSw; (try dsimp only at hSw); go_simp; try with_reducible rfl)
        simp only [Act.put, List.setIfInBounds_toArray, List.set_cons_zero, List.set_cons_succ]
        refine take_yes 11 150 (v := ?_) rfl rfl (by kernel_rfl) (by kernel_rfl) (by kernel_rfl) (fun _ _ _ h => h) (by rfl) ?_ hHeld ?_
        rotate_left
        · (intro w hSw; (try dsimp only at hSw); go_simp; try with_reducible rfl)
        simp only [Act.put, List.setIfInBounds_toArray, List.set_cons_zero, List.set_cons_succ]
        refine take_yes 12 151 (v := ?_) rfl rfl (by kernel_rfl) (by kernel_rfl) (by kernel_rfl) (fun _ _ _ h => h) (by rfl) ?_ hHeld ?_
        rotate_left
        · (intro w hSw; (try dsimp only at hSw); go_simp; try with_reducible rfl)
        simp only [Act.put, List.setIfInBounds_toArray, List.set_cons_zero, List.set_cons_succ]
        refine take_yes 14 153 (v := ?_) rfl rfl (by kernel_rfl) (by kernel_rfl) (by kernel_rfl) (fun _ _ _ h => h) (by rfl) ?_ hHeld ?_
        rotate_left
        · (intro w hSw; (try dsimp only at hSw); go_simp; try with_reducible rfl)
        simp only [Act.put, List.setIfInBounds_toArray, List.set_cons_zero, List.set_cons_succ]
        refine take_yes 15 154 (v := ?_) rfl rfl (by kernel_rfl) (by kernel_rfl) (by kernel_rfl) (fun _ _ _ h => h) (by rfl) ?_ hHeld ?_
        rotate_left
        · (intro w hSw; (try dsimp only at hSw); go_simp; try with_reducible rfl)
        simp only [Act.put, List.setIfInBounds_toArray, List.set_cons_zero, List.set_cons_succ]
        refine take_yes 16 155 (v := ?_) rfl rfl (by kernel_rfl) (by kernel_rfl) (by kernel_rfl) (fun _ _ _ h => h) (by rfl) ?_ hHeld ?_
        rotate_left
        · (intro w hSw; (try dsimp only at hSw); go_simp; try with_reducible rfl)
        simp only [Act.put, List.setIfInBounds_toArray, List.set_cons_zero, List.set_cons_succ]
        refine take_yes 17 156 (v := ?_) rfl rfl (by kernel_rfl) (by kernel_rfl) (by kernel_rfl) (fun _ _ _ h => h) (by rfl) ?_ hHeld ?_
        rotate_left
        · (intro w hSw; (try dsimp only at hSw); go_simp; try with_reducible rfl)
        simp only [Act.put, List.setIfInBounds_toArray, List.set_cons_zero, List.set_cons_succ]
        refine wpAnyH_ready (rs := [13]) (by kernel_rfl) (by simp) (AllReadyH.cons rfl (fun K hK => ?_) AllReadyH.nil)
        go_simp
        (go_at_call 24; refine (HAl.out _ hHeld.1).mono ?_; rintro e w14 ⟨x14, y14, rfl, hr14, hg14⟩)
        (try go_wp2_with fail)
        refine hK.out _ _ (by first | with_reducible exact hHeld | with_reducible exact HSt.out _ (Gr.refl _).drew | with_reducible exact HSt.out _ (hHeld.1.trans hg14) | with_reducible exact HSt.out _ (hHeld.1.trans hg15)) (fun hHeldN => ?_)
        clear hHeld hK K
        have hHeld := hHeldN
        clear hHeldN
        refine wpAnyH_ready (rs := [18]) (by kernel_rfl) (by simp) (AllReadyH.cons rfl (fun K hK => ?_) AllReadyH.nil)
        go_simp
        (go_at_call 16; refine (HSm.out _ _ _ hHeld.1 hr14).mono ?_; rintro e w15 ⟨rfl, hg15⟩)
        (try go_wp2_with fail)
        refine hK.out _ _ (by first | with_reducible exact hHeld | with_reducible exact HSt.out _ (Gr.refl _).drew | with_reducible exact HSt.out _ (hHeld.1.trans hg14) | with_reducible exact HSt.out _ (hHeld.1.trans hg15)) (fun hHeldN => ?_)
        clear hHeld hK K
        have hHeld := hHeldN
        clear hHeldN
        refine take_yes 19 158 (v := ?_) rfl rfl (by kernel_rfl) (by kernel_rfl) (by kernel_rfl) (fun _ _ _ h => h) (by rfl) ?_ hHeld ?_
        rotate_left
        · (intro w hSw; (try dsimp only at hSw); go_simp; try with_reducible rfl)
        simp only [Act.put, List.setIfInBounds_toArray, List.set_cons_zero, List.set_cons_succ]
        refine take_yes 20 159 (v := ?_) rfl rfl (by kernel_rfl) (by kernel_rfl) (by kernel_rfl) (fun _ _ _ h => h) (by rfl) ?_ hHeld ?_
        rotate_left
        · (intro w hSw; (try dsimp only at hSw); go_simp; try with_reducible rfl)
        simp only [Act.put, List.setIfInBounds_toArray, List.set_cons_zero, List.set_cons_succ]
        refine take_yes 21 160 (v := ?_) rfl rfl (by kernel_rfl) (by kernel_rfl) (by kernel_rfl) (fun _ _ _ h => h) (by rfl) ?_ hHeld ?_
        rotate_left
        · (intro w hSw; (try dsimp only at hSw); go_simp; try with_reducible rfl)
        simp only [Act.put, List.setIfInBounds_toArray, List.set_cons_zero, List.set_cons_succ]
        refine take_yes 22 161 (v := ?_) rfl rfl (by kernel_rfl) (by kernel_rfl) (by kernel_rfl) (fun _ _ _ h => h) (by rfl) ?_ hHeld ?_
        rotate_left
        · (intro w hSw; (try dsimp only at hSw); go_simp; try with_reducible rfl)
        simp only [Act.put, List.setIfInBounds_toArray, List.set_cons_zero, List.set_cons_succ]
        refine take_yes 23 162 (v := ?_) rfl rfl (by kernel_rfl) (by kernel_rfl) (by kernel_rfl) (fun _ _ _ h => h) (by rfl) ?_ hHeld ?_
        rotate_left
        · (intro w hSw; (try dsimp only at hSw); go_simp; try with_reducible rfl)
        simp only [Act.put, List.setIfInBounds_toArray, List.set_cons_zero, List.set_cons_succ]
        refine take_yes 24 163 (v := ?_) rfl rfl (by kernel_rfl) (by kernel_rfl) (by kernel_rfl) (fun _ _ _ h => h) (by rfl) ?_ hHeld ?_
        rotate_left
        · (intro w hSw; (try dsimp only at hSw); go_simp; try with_reducible rfl)
        simp only [Act.put, List.setIfInBounds_toArray, List.set_cons_zero, List.set_cons_succ]
        refine take_yes 25 164 (v := ?_) rfl rfl (by kernel_rfl) (by kernel_rfl) (by kernel_rfl) (fun _ _ _ h => h) (by rfl) ?_ hHeld ?_
        rotate_left
        · (intro w hSw; (try dsimp only at hSw); go_simp; try with_reducible rfl)
        simp only [Act.put, List.setIfInBounds_toArray, List.set_cons_zero, List.set_cons_succ]
        refine take_yes 26 165 (v := ?_) rfl rfl (by kernel_rfl) (by kernel_rfl) (by kernel_rfl) (fun _ _ _ h => h) (by rfl) ?_ hHeld ?_
        rotate_left
        · (intro w hSw; (try dsimp only at hSw); go_simp; try with_reducible rfl)
        simp only [Act.put, List.setIfInBounds_toArray, List.set_cons_zero, List.set_cons_succ]
        refine take_yes 27 166 (v := ?_) rfl rfl (by kernel_rfl) (by kernel_rfl) (by kernel_rfl) (fun _ _ _ h => h) (by rfl) ?_ hHeld ?_
        rotate_left
        · (intro w hSw; (try dsimp only at hSw); go_simp; try with_reducible rfl)
        simp only [Act.put, List.setIfInBounds_toArray, List.set_cons_zero, List.set_cons_succ]
        refine take_yes 28 167 (v := ?_) rfl rfl (by kernel_rfl) (by kernel_rfl) (by kernel_rfl) (fun _ _ _ h => h) (by rfl) ?_ hHeld ?_
        rotate_left
        · (intro w hSw; (try dsimp only at hSw); go_simp; try with_reducible rfl)
        simp only [Act.put, List.setIfInBounds_toArray, List.set_cons_zero, List.set_cons_succ]
        refine take_yes 29 168 (v := ?_) rfl rfl (by kernel_rfl) (by kernel_rfl) (by kernel_rfl) (fun _ _ _ h => h) (by rfl) ?_ hHeld ?_
        rotate_left
        · (intro w hSw; (try dsimp only at hSw); go_simp; try with_reducible rfl)
        simp only [Act.put, List.setIfInBounds_toArray, List.set_cons_zero, List.set_cons_succ]
        refine take_yes 30 169 (v := ?_) rfl rfl (by kernel_rfl) (by kernel_rfl) (by kernel_rfl) (fun _ _ _ h => h) (by rfl) ?_ hHeld ?_
        rotate_left
        · (intro w hSw; (try dsimp only at hSw); go_simp; try with_reducible rfl)
        simp only [Act.put, List.setIfInBounds_toArray, List.set_cons_zero, List.set_cons_succ]
        refine wpAnyH_done (by kernel_rfl) ?_ _
        have HPy := Lib.hid ((HPx.out.gr hHeld.1).forget)
        clear hHeld hg14 hg15 hr14 HSt HAl HNw HSm HPx
        go_wp2
        go_roundw
        case rel => exact ⟨k + 1, _, _, by omega, by simp, HPy.out⟩
        case measure => simp [intOf]; omega
      · have hb0 : (tk == 0) = false := by simpa using hk0
        have hb1' : (tk == 1) = false := by simpa using hk1
        have hb2' : (tk == 2) = false := by simpa using hk2

        have HPb : Hid (Pl w (wr.alloc (.cells #[.int .i64 tk, .string s, .int .i64 n] 33)) b m t1 L r t1 L (some (wr.heap.size, s, n))) := HP.out.open (Gr.refl wr).alloc rfl (by simp) (by simp)

        have HLu : Hid ((upto L (skE t1 n)).length ≤ 9223372036854775807) := by
          have h7 : (upto L (skE t1 n)).length ≤ L.length := List.length_filter_le _ _
          have := HP.out.ok2.few
          show _ ≤ _; omega
        have HTk := Lib.hid (pl_skip HT.out HPb.out n)
        have HRt : Hid (∀ W u, Pl w W b m (skE t1 n) (past L (skE t1 n)) r t1 L (some (wr.heap.size, s, n)) → Ans W r (upto L (skE t1 n)) u → Calls Tryd.prog 20 #[ptr r, .int .i64 n] W fun e w' => ∃ v, e = .returned (.tuple #[v, .int .i64 (skF n)]) ∧ Both w' (upto L (skE t1 n)) u v ∧ Pl w w' b m (skE t1 n) (past L (skE t1 n)) r (skE t1 n) (past L (skE t1 n)) (some (wr.heap.size, s, n))) := fun W u h ha => pl_rskip h n ha
        generalize skF n = f at *
        generalize skE t1 n = x1 at *
        go_wp2_with fail
        refine HTk.out.mono ?_
        rintro e wA ⟨v1, rfl, ha, hp2⟩
        have HA := Lib.hid ha
        have HP2 := Lib.hid hp2
        have hbx := HP2.out.box.2
        clear ha hp2 HTk HPb hb0 hb1' hb2' hk0 hk1 hk2
        go_wp2_with fail
        refine (HRt.out _ _ HP2.out HA.out).mono ?_
        rintro e wB ⟨v2, rfl, ⟨y1, c1, y2, c2, rfl, rfl, r1, r2⟩, hp3⟩
        have HSe := Lib.hid (same_eq (upto L x1) y1 y2 c1 c2 wB r1 r2 HLu.out)
        have HP3 := Lib.hid hp3
        generalize upto L x1 = U at *
        generalize past L x1 = L3 at *
        clear r1 r2 hp3 HRt HP2 HA d1 d2 d0 hbx
        go_wp2_with fail
        refine HSe.out.mono ?_
        rintro e wC ⟨rfl, hgC⟩
        have HPx := Lib.hid (HP3.out.gr hgC)
        clear hgC HSe HP3 HLu

        have hb1 := HPx.out.box.1
        go_wp2_with fail
        refine (pl_at HPx.out s HKs.out).mono ?_
        rintro e w' ⟨rfl, hw⟩
        obtain rfl := hw.symm
        clear hw
        go_wp2_with fail
        refine (pl_rat HPx.out s).mono ?_
        rintro e w' ⟨rfl, hw⟩
        obtain rfl := hw.symm
        clear hw
        generalize (atK L3 s : Int) = va
        generalize hasK L3 s = vb
        obtain ⟨ad3, cap3, hl3, hr3⟩ := HPx.out.list
        have ht3 := HPx.out.time
        have HSm : Hid (∀ W x y, Gr wC W → RowAt tmf W x L3 → Calls Tryd.prog 16 #[.slice x (L3).length y, .slice ad3 (L3).length cap3] W fun e w' => e = .returned (.bool true) ∧ Gr W w') := fun W x y g rr => same_eq L3 x ad3 y cap3 W rr (hr3.gr g) (by have := HPx.out.ok2.few; omega)
        have HNw : Hid (∀ W, Gr wC W → Calls Tryd.prog 23 #[ptr b] W fun e w' => e = .returned (.int .i64 (x1 : Int)) ∧ w' = W) := fun W g => pl_now (HPx.out.gr g)
        have HAl : Hid (∀ W, Gr wC W → Calls Tryd.prog 24 #[ptr b] W fun e w' => ∃ x y, e = .returned (.slice x (L3).length y) ∧ RowAt tmf w' x L3 ∧ Gr W w') := fun W g => pl_all (HPx.out.gr g)
        have HSt : Hid (∀ W, Gr wC W → Gr wC W ∧ W.cell? ⟨r, 0, none⟩ = some (.int .i64 (x1 : Int)) ∧ W.cell? ⟨r, 1, none⟩ = some (.slice ad3 (L3).length cap3)) := fun W g => ⟨g, g.keep ht3, g.keep hl3⟩
        clear ht3 hl3 hr3 hb1
        go_upto_region 24 with fail
        refine wp_region_held_drew (S := (fun w' => Gr wC w' ∧ w'.cell? ⟨r, 0, none⟩ = some (.int .i64 (x1 : Int)) ∧ w'.cell? ⟨r, 1, none⟩ = some (.slice ad3 (L3).length cap3))) (by kernel_rfl) (by first | with_reducible exact hHeld | with_reducible exact HSt.out _ (Gr.refl _).drew | with_reducible exact HSt.out _ (hHeld.1.trans hg14) | with_reducible exact HSt.out _ (hHeld.1.trans hg15)) (fun hHeld => ?_)
        refine take_yes 0 139 (v := ?_) rfl rfl (by kernel_rfl) (by kernel_rfl) (by kernel_rfl) (fun _ _ _ h => h) (by rfl) ?_ hHeld ?_
        rotate_left
        · (intro w hSw; (try dsimp only at hSw); go_simp; try with_reducible rfl)
        simp only [Act.put, List.setIfInBounds_toArray, List.set_cons_zero, List.set_cons_succ]
        refine take_yes 1 140 (v := ?_) rfl rfl (by kernel_rfl) (by kernel_rfl) (by kernel_rfl) (fun _ _ _ h => h) (by rfl) ?_ hHeld ?_
        rotate_left
        · (intro w hSw; (try dsimp only at hSw); go_simp; try with_reducible rfl)
        simp only [Act.put, List.setIfInBounds_toArray, List.set_cons_zero, List.set_cons_succ]
        refine take_yes 2 141 (v := ?_) rfl rfl (by kernel_rfl) (by kernel_rfl) (by kernel_rfl) (fun _ _ _ h => h) (by rfl) ?_ hHeld ?_
        rotate_left
        · (intro w hSw; (try dsimp only at hSw); go_simp; try with_reducible rfl)
        simp only [Act.put, List.setIfInBounds_toArray, List.set_cons_zero, List.set_cons_succ]
        refine take_yes 3 142 (v := ?_) rfl rfl (by kernel_rfl) (by kernel_rfl) (by kernel_rfl) (fun _ _ _ h => h) (by rfl) ?_ hHeld ?_
        rotate_left
        · (intro w hSw; (try dsimp only at hSw); go_simp; try with_reducible rfl)
        simp only [Act.put, List.setIfInBounds_toArray, List.set_cons_zero, List.set_cons_succ]
        refine take_yes 5 144 (v := ?_) rfl rfl (by kernel_rfl) (by kernel_rfl) (by kernel_rfl) (fun _ _ _ h => h) (by rfl) ?_ hHeld ?_
        rotate_left
        · (intro w hSw; (try dsimp only at hSw); go_simp; try with_reducible rfl)
        simp only [Act.put, List.setIfInBounds_toArray, List.set_cons_zero, List.set_cons_succ]
        refine take_yes 6 145 (v := ?_) rfl rfl (by kernel_rfl) (by kernel_rfl) (by kernel_rfl) (fun _ _ _ h => h) (by rfl) ?_ hHeld ?_
        rotate_left
        · (intro w hSw; (try dsimp only at hSw); go_simp; try with_reducible rfl)
        simp only [Act.put, List.setIfInBounds_toArray, List.set_cons_zero, List.set_cons_succ]
        refine take_yes 7 146 (v := ?_) rfl rfl (by kernel_rfl) (by kernel_rfl) (by kernel_rfl) (fun _ _ _ h => h) (by rfl) ?_ hHeld ?_
        rotate_left
        · (intro w hSw; (try dsimp only at hSw); go_simp; try with_reducible rfl)
        simp only [Act.put, List.setIfInBounds_toArray, List.set_cons_zero, List.set_cons_succ]
        refine take_yes 8 147 (v := ?_) rfl rfl (by kernel_rfl) (by kernel_rfl) (by kernel_rfl) (fun _ _ _ h => h) (by rfl) ?_ hHeld ?_
        rotate_left
        · (intro w hSw; (try dsimp only at hSw); go_simp; try with_reducible rfl)
        simp only [Act.put, List.setIfInBounds_toArray, List.set_cons_zero, List.set_cons_succ]
        refine wpAnyH_ready (rs := [4]) (by kernel_rfl) (by simp) (AllReadyH.cons rfl (fun K hK => ?_) AllReadyH.nil)
        go_simp
        (go_at_call 23; refine (HNw.out _ hHeld.1).mono ?_; rintro e w' ⟨rfl, hw⟩; obtain rfl := hw.symm; clear hw)
        (try go_wp2_with fail)
        refine hK.out _ _ (by first | with_reducible exact hHeld | with_reducible exact HSt.out _ (Gr.refl _).drew | with_reducible exact HSt.out _ (hHeld.1.trans hg14) | with_reducible exact HSt.out _ (hHeld.1.trans hg15)) (fun hHeldN => ?_)
        clear hHeld hK K
        have hHeld := hHeldN
        clear hHeldN
        refine take_yes 9 148 (v := ?_) rfl rfl (by kernel_rfl) (by kernel_rfl) (by kernel_rfl) (fun _ _ _ h => h) (by rfl) ?_ hHeld ?_
        rotate_left
        · (intro w hSw; (try dsimp only at hSw); go_simp; try with_reducible rfl)
        simp only [Act.put, List.setIfInBounds_toArray, List.set_cons_zero, List.set_cons_succ]
        refine take_yes 10 149 (v := ?_) rfl rfl (by kernel_rfl) (by kernel_rfl) (by kernel_rfl) (fun _ _ _ h => h) (by rfl) ?_ hHeld ?_
        rotate_left
        · (intro w hSw; (try dsimp only at hSw); go_simp; try with_reducible rfl)
        simp only [Act.put, List.setIfInBounds_toArray, List.set_cons_zero, List.set_cons_succ]
        refine take_yes 11 150 (v := ?_) rfl rfl (by kernel_rfl) (by kernel_rfl) (by kernel_rfl) (fun _ _ _ h => h) (by rfl) ?_ hHeld ?_
        rotate_left
        · (intro w hSw; (try dsimp only at hSw); go_simp; try with_reducible rfl)
        simp only [Act.put, List.setIfInBounds_toArray, List.set_cons_zero, List.set_cons_succ]
        refine take_yes 12 151 (v := ?_) rfl rfl (by kernel_rfl) (by kernel_rfl) (by kernel_rfl) (fun _ _ _ h => h) (by rfl) ?_ hHeld ?_
        rotate_left
        · (intro w hSw; (try dsimp only at hSw); go_simp; try with_reducible rfl)
        simp only [Act.put, List.setIfInBounds_toArray, List.set_cons_zero, List.set_cons_succ]
        refine take_yes 14 153 (v := ?_) rfl rfl (by kernel_rfl) (by kernel_rfl) (by kernel_rfl) (fun _ _ _ h => h) (by rfl) ?_ hHeld ?_
        rotate_left
        · (intro w hSw; (try dsimp only at hSw); go_simp; try with_reducible rfl)
        simp only [Act.put, List.setIfInBounds_toArray, List.set_cons_zero, List.set_cons_succ]
        refine take_yes 15 154 (v := ?_) rfl rfl (by kernel_rfl) (by kernel_rfl) (by kernel_rfl) (fun _ _ _ h => h) (by rfl) ?_ hHeld ?_
        rotate_left
        · (intro w hSw; (try dsimp only at hSw); go_simp; try with_reducible rfl)
        simp only [Act.put, List.setIfInBounds_toArray, List.set_cons_zero, List.set_cons_succ]
        refine take_yes 16 155 (v := ?_) rfl rfl (by kernel_rfl) (by kernel_rfl) (by kernel_rfl) (fun _ _ _ h => h) (by rfl) ?_ hHeld ?_
        rotate_left
        · (intro w hSw; (try dsimp only at hSw); go_simp; try with_reducible rfl)
        simp only [Act.put, List.setIfInBounds_toArray, List.set_cons_zero, List.set_cons_succ]
        refine take_yes 17 156 (v := ?_) rfl rfl (by kernel_rfl) (by kernel_rfl) (by kernel_rfl) (fun _ _ _ h => h) (by rfl) ?_ hHeld ?_
        rotate_left
        · (intro w hSw; (try dsimp only at hSw); go_simp; try with_reducible rfl)
        simp only [Act.put, List.setIfInBounds_toArray, List.set_cons_zero, List.set_cons_succ]
        refine wpAnyH_ready (rs := [13]) (by kernel_rfl) (by simp) (AllReadyH.cons rfl (fun K hK => ?_) AllReadyH.nil)
        go_simp
        (go_at_call 24; refine (HAl.out _ hHeld.1).mono ?_; rintro e w14 ⟨x14, y14, rfl, hr14, hg14⟩)
        (try go_wp2_with fail)
        refine hK.out _ _ (by first | with_reducible exact hHeld | with_reducible exact HSt.out _ (Gr.refl _).drew | with_reducible exact HSt.out _ (hHeld.1.trans hg14) | with_reducible exact HSt.out _ (hHeld.1.trans hg15)) (fun hHeldN => ?_)
        clear hHeld hK K
        have hHeld := hHeldN
        clear hHeldN
        refine wpAnyH_ready (rs := [18]) (by kernel_rfl) (by simp) (AllReadyH.cons rfl (fun K hK => ?_) AllReadyH.nil)
        go_simp
        (go_at_call 16; refine (HSm.out _ _ _ hHeld.1 hr14).mono ?_; rintro e w15 ⟨rfl, hg15⟩)
        (try go_wp2_with fail)
        refine hK.out _ _ (by first | with_reducible exact hHeld | with_reducible exact HSt.out _ (Gr.refl _).drew | with_reducible exact HSt.out _ (hHeld.1.trans hg14) | with_reducible exact HSt.out _ (hHeld.1.trans hg15)) (fun hHeldN => ?_)
        clear hHeld hK K
        have hHeld := hHeldN
        clear hHeldN
        refine take_yes 19 158 (v := ?_) rfl rfl (by kernel_rfl) (by kernel_rfl) (by kernel_rfl) (fun _ _ _ h => h) (by rfl) ?_ hHeld ?_
        rotate_left
        · (intro w hSw; (try dsimp only at hSw); go_simp; try with_reducible rfl)
        simp only [Act.put, List.setIfInBounds_toArray, List.set_cons_zero, List.set_cons_succ]
        refine take_yes 20 159 (v := ?_) rfl rfl (by kernel_rfl) (by kernel_rfl) (by kernel_rfl) (fun _ _ _ h => h) (by rfl) ?_ hHeld ?_
        rotate_left
        · (intro w hSw; (try dsimp only at hSw); go_simp; try with_reducible rfl)
        simp only [Act.put, List.setIfInBounds_toArray, List.set_cons_zero, List.set_cons_succ]
        refine take_yes 21 160 (v := ?_) rfl rfl (by kernel_rfl) (by kernel_rfl) (by kernel_rfl) (fun _ _ _ h => h) (by rfl) ?_ hHeld ?_
        rotate_left
        · (intro w hSw; (try dsimp only at hSw); go_simp; try with_reducible rfl)
        simp only [Act.put, List.setIfInBounds_toArray, List.set_cons_zero, List.set_cons_succ]
        refine take_yes 22 161 (v := ?_) rfl rfl (by kernel_rfl) (by kernel_rfl) (by kernel_rfl) (fun _ _ _ h => h) (by rfl) ?_ hHeld ?_
        rotate_left
        · (intro w hSw; (try dsimp only at hSw); go_simp; try with_reducible rfl)
        simp only [Act.put, List.setIfInBounds_toArray, List.set_cons_zero, List.set_cons_succ]
        refine take_yes 23 162 (v := ?_) rfl rfl (by kernel_rfl) (by kernel_rfl) (by kernel_rfl) (fun _ _ _ h => h) (by rfl) ?_ hHeld ?_
        rotate_left
        · (intro w hSw; (try dsimp only at hSw); go_simp; try with_reducible rfl)
        simp only [Act.put, List.setIfInBounds_toArray, List.set_cons_zero, List.set_cons_succ]
        refine take_yes 24 163 (v := ?_) rfl rfl (by kernel_rfl) (by kernel_rfl) (by kernel_rfl) (fun _ _ _ h => h) (by rfl) ?_ hHeld ?_
        rotate_left
        · (intro w hSw; (try dsimp only at hSw); go_simp; try with_reducible rfl)
        simp only [Act.put, List.setIfInBounds_toArray, List.set_cons_zero, List.set_cons_succ]
        refine take_yes 25 164 (v := ?_) rfl rfl (by kernel_rfl) (by kernel_rfl) (by kernel_rfl) (fun _ _ _ h => h) (by rfl) ?_ hHeld ?_
        rotate_left
        · (intro w hSw; (try dsimp only at hSw); go_simp; try with_reducible rfl)
        simp only [Act.put, List.setIfInBounds_toArray, List.set_cons_zero, List.set_cons_succ]
        refine take_yes 26 165 (v := ?_) rfl rfl (by kernel_rfl) (by kernel_rfl) (by kernel_rfl) (fun _ _ _ h => h) (by rfl) ?_ hHeld ?_
        rotate_left
        · (intro w hSw; (try dsimp only at hSw); go_simp; try with_reducible rfl)
        simp only [Act.put, List.setIfInBounds_toArray, List.set_cons_zero, List.set_cons_succ]
        refine take_yes 27 166 (v := ?_) rfl rfl (by kernel_rfl) (by kernel_rfl) (by kernel_rfl) (fun _ _ _ h => h) (by rfl) ?_ hHeld ?_
        rotate_left
        · (intro w hSw; (try dsimp only at hSw); go_simp; try with_reducible rfl)
        simp only [Act.put, List.setIfInBounds_toArray, List.set_cons_zero, List.set_cons_succ]
        refine take_yes 28 167 (v := ?_) rfl rfl (by kernel_rfl) (by kernel_rfl) (by kernel_rfl) (fun _ _ _ h => h) (by rfl) ?_ hHeld ?_
        rotate_left
        · (intro w hSw; (try dsimp only at hSw); go_simp; try with_reducible rfl)
        simp only [Act.put, List.setIfInBounds_toArray, List.set_cons_zero, List.set_cons_succ]
        refine take_yes 29 168 (v := ?_) rfl rfl (by kernel_rfl) (by kernel_rfl) (by kernel_rfl) (fun _ _ _ h => h) (by rfl) ?_ hHeld ?_
        rotate_left
        · (intro w hSw; (try dsimp only at hSw); go_simp; try with_reducible rfl)
        simp only [Act.put, List.setIfInBounds_toArray, List.set_cons_zero, List.set_cons_succ]
        refine take_yes 30 169 (v := ?_) rfl rfl (by kernel_rfl) (by kernel_rfl) (by kernel_rfl) (fun _ _ _ h => h) (by rfl) ?_ hHeld ?_
        rotate_left
        · (intro w hSw; (try dsimp only at hSw); go_simp; try with_reducible rfl)
        simp only [Act.put, List.setIfInBounds_toArray, List.set_cons_zero, List.set_cons_succ]
        refine wpAnyH_done (by kernel_rfl) ?_ _
        have HPy := Lib.hid ((HPx.out.gr hHeld.1).forget)
        clear hHeld hg14 hg15 hr14 HSt HAl HNw HSm HPx
        go_wp2
        go_roundw
        case rel => exact ⟨k + 1, _, _, by omega, by simp, HPy.out⟩
        case measure => simp [intOf]; omega
    · obtain rfl : k = T.length := by omega
      go_wp2_with fail
      refine (HAw.out _ HP.out.gra).mono ?_
      rintro e w9 ⟨rfl, hg9⟩
      have HF := Lib.hid (HP.out.gra.trans hg9)
      clear hg9
      go_wp2
      go_ret
      exact ⟨rfl, HF.out⟩
end Go.Proofs.YtmgiiofjlgchfaaDoor
