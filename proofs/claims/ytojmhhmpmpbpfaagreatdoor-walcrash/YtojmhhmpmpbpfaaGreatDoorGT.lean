/- Parts of these proofs, laid together. -/
import Derived.Test.YtojmhhmpmpbpfaaGreatDoorGS
namespace Go.Proofs.YtojmhhmpmpbpfaaGreatDoor
open Go.RowKit Go.Maps
open Dk (Fl Fo St Ok)
variable {a w w' w2 : World} {b m f g : Nat} {A : Nat → Int} {s : St} {n z : Int}

theorem drp_cons (s : St) (x : Int) (l : List Int) : Wl.drp s (x :: l) = if Dk.stpE s 3 x 0 = 0 then Wl.drp (Dk.stpS s 3 x 0) l else (Dk.stpE s 3 x 0, Dk.stpS s 3 x 0) := by
  rw [Wl.drp]
theorem no_minus (h : Ok s) : Dk.has s.L (-1) = false := by
  cases e : Dk.has s.L (-1) with
  | false => rfl
  | true =>
    obtain ⟨f, hf, hn⟩ := Dk.has_mem e
    have := (h.fo f hf).n0
    omega
set_option maxHeartbeats 4000000 in
set_option maxRecDepth 100000 in
theorem wpower_any (h : DAt w b m A s) : Calls Tryz.prog 29 #[ptr b] w fun e w' => e = .returned (.int .i64 (if s.dead then 150 else 0)) ∧ Gr w w' := by
  have HR := Lib.hid (read_any h (n := -1) (by omega) (by omega))
  have hm := no_minus h.ok
  cases hd : s.dead with
  | true =>
    have he : fndE s (-1) = 150 := by unfold fndE; rw [hd]; rfl
    rw [he] at HR
    clear h
    go_enter Tryz.func29, Tryz.ntmps29
    go_wp2_with fail
    refine HR.out.mono ?_
    rintro e w1 ⟨rfl, hg⟩
    have HG := Lib.hid hg
    clear hg
    go_wp2
    go_ret
    exact ⟨rfl, HG.out⟩
  | false =>
    have he : fndE s (-1) = 152 := by unfold fndE; rw [hd, hm]; rfl
    rw [he] at HR
    clear h
    go_enter Tryz.func29, Tryz.ntmps29
    go_wp2_with fail
    refine HR.out.mono ?_
    rintro e w1 ⟨rfl, hg⟩
    have HG := Lib.hid hg
    clear hg
    go_wp2
    go_ret
    exact ⟨rfl, HG.out⟩
theorem Fa.cells (h : Fa w g b n) (hd : DAt w b m A s) : ∀ w', Td w w' b m → w'.cell? ⟨g, 0, none⟩ = some (ptr b) ∧ w'.cell? ⟨g, 1, none⟩ = some (.int .i64 n) := fun w' k => by
  have := h.td hd k
  exact ⟨this.c0, this.c1⟩
set_option maxHeartbeats 4000000 in
set_option maxRecDepth 100000 in
theorem lay_any (h : DAt w b m A s) (hf : Fa w g b n) (d : ByteArray) (h0 : -9223372036854775808 ≤ n) (h1 : n ≤ 9223372036854775807) :
    Calls Tryz.prog 46 #[ptr g, .string d] w fun e w' => e = .returned (.int .i64 (layE s n d)) ∧ FaR w w' b m (layS s n d) := by
  have HA := Lib.hid (append_any (h.gr (Gr.refl w).drew) n d)
  have HS := Lib.hid (hf.cells h)
  have HY : Hid (∀ w2 A', DAt w2 b m A' (Dk.appS s n d) → Calls Tryz.prog 75 #[ptr b, .int .i64 n] w2 fun e w' => e = .returned (.int .i64 (Dk.stpE (Dk.appS s n d) 1 n 0)) ∧ FaR w2 w' b m (Dk.stpS (Dk.appS s n d) 1 n 0)) := fun w2 A' h2 => sync_any h2 h0 h1
  unfold layE layS
  clear h hf
  by_cases e1 : Dk.appE s n d = 0
  · rw [if_pos e1, if_pos e1]
    rw [e1] at HA
    generalize Dk.appS s n d = sA at *
    clear e1
    generalize Dk.stpE sA 1 n 0 = eB at *
    generalize Dk.stpS sA 1 n 0 = sB at *
    go_enter Tryz.func46, Tryz.ntmps46
    go_upto_region 1 with fail
    refine wp_region_held_drew (S := (fun w' => w'.cell? ⟨g, 0, none⟩ = some (ptr b) ∧ w'.cell? ⟨g, 1, none⟩ = some (.int .i64 n))) (by kernel_rfl) (by first | with_reducible exact hHeld | with_reducible exact HS.out _ HT2.out | with_reducible exact HS.out _ (Td.gr (Gr.refl w).drew)) (fun hHeld => ?_)
    refine take_yes 0 6 (v := ?_) rfl rfl (by kernel_rfl) (by kernel_rfl) (by kernel_rfl) (fun _ _ _ h => h) (by rfl) ?_ hHeld ?_
    rotate_left
    · (intro w hSw; (try dsimp only at hSw); go_simp; try with_reducible rfl)
    simp only [Act.put, List.setIfInBounds_toArray, List.set_cons_zero, List.set_cons_succ]
    refine take_yes 1 7 (v := ?_) rfl rfl (by kernel_rfl) (by kernel_rfl) (by kernel_rfl) (fun _ _ _ h => h) (by rfl) ?_ hHeld ?_
    rotate_left
    · (intro w hSw; (try dsimp only at hSw); go_simp; try with_reducible rfl)
    simp only [Act.put, List.setIfInBounds_toArray, List.set_cons_zero, List.set_cons_succ]
    refine take_yes 2 8 (v := ?_) rfl rfl (by kernel_rfl) (by kernel_rfl) (by kernel_rfl) (fun _ _ _ h => h) (by rfl) ?_ hHeld ?_
    rotate_left
    · (intro w hSw; (try dsimp only at hSw); go_simp; try with_reducible rfl)
    simp only [Act.put, List.setIfInBounds_toArray, List.set_cons_zero, List.set_cons_succ]
    refine take_yes 3 9 (v := ?_) rfl rfl (by kernel_rfl) (by kernel_rfl) (by kernel_rfl) (fun _ _ _ h => h) (by rfl) ?_ hHeld ?_
    rotate_left
    · (intro w hSw; (try dsimp only at hSw); go_simp; try with_reducible rfl)
    simp only [Act.put, List.setIfInBounds_toArray, List.set_cons_zero, List.set_cons_succ]
    refine take_yes 4 10 (v := ?_) rfl rfl (by kernel_rfl) (by kernel_rfl) (by kernel_rfl) (fun _ _ _ h => h) (by rfl) ?_ hHeld ?_
    rotate_left
    · (intro w hSw; (try dsimp only at hSw); go_simp; try with_reducible rfl)
    simp only [Act.put, List.setIfInBounds_toArray, List.set_cons_zero, List.set_cons_succ]
    refine take_yes 5 11 (v := ?_) rfl rfl (by kernel_rfl) (by kernel_rfl) (by kernel_rfl) (fun _ _ _ h => h) (by rfl) ?_ hHeld ?_
    rotate_left
    · (intro w hSw; (try dsimp only at hSw); go_simp; try with_reducible rfl)
    simp only [Act.put, List.setIfInBounds_toArray, List.set_cons_zero, List.set_cons_succ]
    refine take_yes 6 12 (v := ?_) rfl rfl (by kernel_rfl) (by kernel_rfl) (by kernel_rfl) (fun _ _ _ h => h) (by rfl) ?_ hHeld ?_
    rotate_left
    · (intro w hSw; (try dsimp only at hSw); go_simp; try with_reducible rfl)
    simp only [Act.put, List.setIfInBounds_toArray, List.set_cons_zero, List.set_cons_succ]
    refine take_yes 7 13 (v := ?_) rfl rfl (by kernel_rfl) (by kernel_rfl) (by kernel_rfl) (fun _ _ _ h => h) (by rfl) ?_ hHeld ?_
    rotate_left
    · (intro w hSw; (try dsimp only at hSw); go_simp; try with_reducible rfl)
    simp only [Act.put, List.setIfInBounds_toArray, List.set_cons_zero, List.set_cons_succ]
    refine take_yes 8 14 (v := ?_) rfl rfl (by kernel_rfl) (by kernel_rfl) (by kernel_rfl) (fun _ _ _ h => h) (by rfl) ?_ hHeld ?_
    rotate_left
    · (intro w hSw; (try dsimp only at hSw); go_simp; try with_reducible rfl)
    simp only [Act.put, List.setIfInBounds_toArray, List.set_cons_zero, List.set_cons_succ]
    refine wpAnyH_ready (rs := [9]) (by kernel_rfl) (by simp) (AllReadyH.cons rfl (fun K hK => ?_) AllReadyH.nil)
    go_simp
    (go_at_call 74; refine HA.out.mono ?_; rintro e w2 ⟨rfl, hr2⟩; have HT2 := Lib.hid ((Td.gr (Gr.refl w).drew).trans hr2.2); have HR2 := Lib.hid hr2.1; clear hr2)
    (try go_wp2_with fail)
    refine hK.out _ _ (by first | with_reducible exact hHeld | with_reducible exact HS.out _ HT2.out | with_reducible exact HS.out _ (Td.gr (Gr.refl w).drew)) (fun hHeldN => ?_)
    clear hHeld hK K
    have hHeld := hHeldN
    clear hHeldN
    refine take_yes 10 5 (v := ?_) rfl rfl (by kernel_rfl) (by kernel_rfl) (by kernel_rfl) (fun _ _ _ h => h) (by rfl) ?_ hHeld ?_
    rotate_left
    · (intro w hSw; (try dsimp only at hSw); go_simp; try with_reducible rfl)
    simp only [Act.put, List.setIfInBounds_toArray, List.set_cons_zero, List.set_cons_succ]
    refine wpAnyH_done (by kernel_rfl) ?_ _
    clear hHeld
    go_upto_region 4 with fail
    obtain ⟨A2, hA2⟩ := HR2.out
    have HA2 := Lib.hid hA2
    clear hA2
    refine wp_region_held_drew (S := (fun w' => w'.cell? ⟨g, 0, none⟩ = some (ptr b) ∧ w'.cell? ⟨g, 1, none⟩ = some (.int .i64 n))) (by kernel_rfl) (by first | with_reducible exact hHeld | with_reducible exact HS.out _ HT3.out | with_reducible exact HS.out _ (HT2.out.gr' (Gr.refl _).drew)) (fun hHeld => ?_)
    refine take_yes 0 19 (v := ?_) rfl rfl (by kernel_rfl) (by kernel_rfl) (by kernel_rfl) (fun _ _ _ h => h) (by rfl) ?_ hHeld ?_
    rotate_left
    · (intro w hSw; (try dsimp only at hSw); go_simp; try with_reducible rfl)
    simp only [Act.put, List.setIfInBounds_toArray, List.set_cons_zero, List.set_cons_succ]
    refine take_yes 1 20 (v := ?_) rfl rfl (by kernel_rfl) (by kernel_rfl) (by kernel_rfl) (fun _ _ _ h => h) (by rfl) ?_ hHeld ?_
    rotate_left
    · (intro w hSw; (try dsimp only at hSw); go_simp; try with_reducible rfl)
    simp only [Act.put, List.setIfInBounds_toArray, List.set_cons_zero, List.set_cons_succ]
    refine take_yes 2 21 (v := ?_) rfl rfl (by kernel_rfl) (by kernel_rfl) (by kernel_rfl) (fun _ _ _ h => h) (by rfl) ?_ hHeld ?_
    rotate_left
    · (intro w hSw; (try dsimp only at hSw); go_simp; try with_reducible rfl)
    simp only [Act.put, List.setIfInBounds_toArray, List.set_cons_zero, List.set_cons_succ]
    refine take_yes 3 22 (v := ?_) rfl rfl (by kernel_rfl) (by kernel_rfl) (by kernel_rfl) (fun _ _ _ h => h) (by rfl) ?_ hHeld ?_
    rotate_left
    · (intro w hSw; (try dsimp only at hSw); go_simp; try with_reducible rfl)
    simp only [Act.put, List.setIfInBounds_toArray, List.set_cons_zero, List.set_cons_succ]
    refine take_yes 4 23 (v := ?_) rfl rfl (by kernel_rfl) (by kernel_rfl) (by kernel_rfl) (fun _ _ _ h => h) (by rfl) ?_ hHeld ?_
    rotate_left
    · (intro w hSw; (try dsimp only at hSw); go_simp; try with_reducible rfl)
    simp only [Act.put, List.setIfInBounds_toArray, List.set_cons_zero, List.set_cons_succ]
    refine take_yes 5 24 (v := ?_) rfl rfl (by kernel_rfl) (by kernel_rfl) (by kernel_rfl) (fun _ _ _ h => h) (by rfl) ?_ hHeld ?_
    rotate_left
    · (intro w hSw; (try dsimp only at hSw); go_simp; try with_reducible rfl)
    simp only [Act.put, List.setIfInBounds_toArray, List.set_cons_zero, List.set_cons_succ]
    refine take_yes 6 25 (v := ?_) rfl rfl (by kernel_rfl) (by kernel_rfl) (by kernel_rfl) (fun _ _ _ h => h) (by rfl) ?_ hHeld ?_
    rotate_left
    · (intro w hSw; (try dsimp only at hSw); go_simp; try with_reducible rfl)
    simp only [Act.put, List.setIfInBounds_toArray, List.set_cons_zero, List.set_cons_succ]
    refine take_yes 7 26 (v := ?_) rfl rfl (by kernel_rfl) (by kernel_rfl) (by kernel_rfl) (fun _ _ _ h => h) (by rfl) ?_ hHeld ?_
    rotate_left
    · (intro w hSw; (try dsimp only at hSw); go_simp; try with_reducible rfl)
    simp only [Act.put, List.setIfInBounds_toArray, List.set_cons_zero, List.set_cons_succ]
    refine wpAnyH_ready (rs := [8]) (by kernel_rfl) (by simp) (AllReadyH.cons rfl (fun K hK => ?_) AllReadyH.nil)
    go_simp
    (go_at_call 75; refine (HY.out _ A2 (HA2.out.gr (Gr.refl _).drew)).mono ?_; rintro e w3 ⟨rfl, hr3⟩; have HT3 := Lib.hid ((HT2.out.gr' (Gr.refl _).drew).trans hr3.2); have HR3 := Lib.hid hr3.1; clear hr3)
    (try go_wp2_with fail)
    refine hK.out _ _ (by first | with_reducible exact hHeld | with_reducible exact HS.out _ HT3.out | with_reducible exact HS.out _ (HT2.out.gr' (Gr.refl _).drew)) (fun hHeldN => ?_)
    clear hHeld hK K
    have hHeld := hHeldN
    clear hHeldN
    refine take_yes 9 4 (v := ?_) rfl rfl (by kernel_rfl) (by kernel_rfl) (by kernel_rfl) (fun _ _ _ h => h) (by rfl) ?_ hHeld ?_
    rotate_left
    · (intro w hSw; (try dsimp only at hSw); go_simp; try with_reducible rfl)
    simp only [Act.put, List.setIfInBounds_toArray, List.set_cons_zero, List.set_cons_succ]
    refine wpAnyH_done (by kernel_rfl) ?_ _
    clear hHeld
    go_wp2
    go_ret
    exact ⟨rfl, HR3.out, HT3.out⟩
  · rw [if_neg e1, if_neg e1]
    have e1b : (Dk.appE s n d == 0) = false := by simpa using e1
    clear HY
    generalize Dk.appS s n d = sA at *
    generalize Dk.appE s n d = eA at *
    go_enter Tryz.func46, Tryz.ntmps46
    go_upto_region 1 with fail
    refine wp_region_held_drew (S := (fun w' => w'.cell? ⟨g, 0, none⟩ = some (ptr b) ∧ w'.cell? ⟨g, 1, none⟩ = some (.int .i64 n))) (by kernel_rfl) (by first | with_reducible exact hHeld | with_reducible exact HS.out _ HT2.out | with_reducible exact HS.out _ (Td.gr (Gr.refl w).drew)) (fun hHeld => ?_)
    refine take_yes 0 6 (v := ?_) rfl rfl (by kernel_rfl) (by kernel_rfl) (by kernel_rfl) (fun _ _ _ h => h) (by rfl) ?_ hHeld ?_
    rotate_left
    · (intro w hSw; (try dsimp only at hSw); go_simp; try with_reducible rfl)
    simp only [Act.put, List.setIfInBounds_toArray, List.set_cons_zero, List.set_cons_succ]
    refine take_yes 1 7 (v := ?_) rfl rfl (by kernel_rfl) (by kernel_rfl) (by kernel_rfl) (fun _ _ _ h => h) (by rfl) ?_ hHeld ?_
    rotate_left
    · (intro w hSw; (try dsimp only at hSw); go_simp; try with_reducible rfl)
    simp only [Act.put, List.setIfInBounds_toArray, List.set_cons_zero, List.set_cons_succ]
    refine take_yes 2 8 (v := ?_) rfl rfl (by kernel_rfl) (by kernel_rfl) (by kernel_rfl) (fun _ _ _ h => h) (by rfl) ?_ hHeld ?_
    rotate_left
    · (intro w hSw; (try dsimp only at hSw); go_simp; try with_reducible rfl)
    simp only [Act.put, List.setIfInBounds_toArray, List.set_cons_zero, List.set_cons_succ]
    refine take_yes 3 9 (v := ?_) rfl rfl (by kernel_rfl) (by kernel_rfl) (by kernel_rfl) (fun _ _ _ h => h) (by rfl) ?_ hHeld ?_
    rotate_left
    · (intro w hSw; (try dsimp only at hSw); go_simp; try with_reducible rfl)
    simp only [Act.put, List.setIfInBounds_toArray, List.set_cons_zero, List.set_cons_succ]
    refine take_yes 4 10 (v := ?_) rfl rfl (by kernel_rfl) (by kernel_rfl) (by kernel_rfl) (fun _ _ _ h => h) (by rfl) ?_ hHeld ?_
    rotate_left
    · (intro w hSw; (try dsimp only at hSw); go_simp; try with_reducible rfl)
    simp only [Act.put, List.setIfInBounds_toArray, List.set_cons_zero, List.set_cons_succ]
    refine take_yes 5 11 (v := ?_) rfl rfl (by kernel_rfl) (by kernel_rfl) (by kernel_rfl) (fun _ _ _ h => h) (by rfl) ?_ hHeld ?_
    rotate_left
    · (intro w hSw; (try dsimp only at hSw); go_simp; try with_reducible rfl)
    simp only [Act.put, List.setIfInBounds_toArray, List.set_cons_zero, List.set_cons_succ]
    refine take_yes 6 12 (v := ?_) rfl rfl (by kernel_rfl) (by kernel_rfl) (by kernel_rfl) (fun _ _ _ h => h) (by rfl) ?_ hHeld ?_
    rotate_left
    · (intro w hSw; (try dsimp only at hSw); go_simp; try with_reducible rfl)
    simp only [Act.put, List.setIfInBounds_toArray, List.set_cons_zero, List.set_cons_succ]
    refine take_yes 7 13 (v := ?_) rfl rfl (by kernel_rfl) (by kernel_rfl) (by kernel_rfl) (fun _ _ _ h => h) (by rfl) ?_ hHeld ?_
    rotate_left
    · (intro w hSw; (try dsimp only at hSw); go_simp; try with_reducible rfl)
    simp only [Act.put, List.setIfInBounds_toArray, List.set_cons_zero, List.set_cons_succ]
    refine take_yes 8 14 (v := ?_) rfl rfl (by kernel_rfl) (by kernel_rfl) (by kernel_rfl) (fun _ _ _ h => h) (by rfl) ?_ hHeld ?_
    rotate_left
    · (intro w hSw; (try dsimp only at hSw); go_simp; try with_reducible rfl)
    simp only [Act.put, List.setIfInBounds_toArray, List.set_cons_zero, List.set_cons_succ]
    refine wpAnyH_ready (rs := [9]) (by kernel_rfl) (by simp) (AllReadyH.cons rfl (fun K hK => ?_) AllReadyH.nil)
    go_simp
    (go_at_call 74; refine HA.out.mono ?_; rintro e w2 ⟨rfl, hr2⟩; have HT2 := Lib.hid ((Td.gr (Gr.refl w).drew).trans hr2.2); have HR2 := Lib.hid hr2.1; clear hr2)
    (try go_wp2_with fail)
    refine hK.out _ _ (by first | with_reducible exact hHeld | with_reducible exact HS.out _ HT2.out | with_reducible exact HS.out _ (Td.gr (Gr.refl w).drew)) (fun hHeldN => ?_)
    clear hHeld hK K
    have hHeld := hHeldN
    clear hHeldN
    refine take_yes 10 5 (v := ?_) rfl rfl (by kernel_rfl) (by kernel_rfl) (by kernel_rfl) (fun _ _ _ h => h) (by rfl) ?_ hHeld ?_
    rotate_left
    · (intro w hSw; (try dsimp only at hSw); go_simp; try with_reducible rfl)
    simp only [Act.put, List.setIfInBounds_toArray, List.set_cons_zero, List.set_cons_succ]
    refine wpAnyH_done (by kernel_rfl) ?_ _
    clear hHeld
    go_wp2
    go_ret
    exact ⟨rfl, HR2.out, HT2.out⟩
set_option maxHeartbeats 4000000 in
set_option maxRecDepth 100000 in
theorem remove_all (h : DAt w b m A s) (hf : Fa w g b n) {l : List Int} {ad : Option Addr} {cap : Nat} (hl : IntsAt w ad l) (hd : ∀ p, ad = some p → p.block ≠ b ∧ p.block ≠ m) (hlen : l.length ≤ 9223372036854775807) (hr : ∀ x ∈ l, -9223372036854775808 ≤ x ∧ x ≤ 9223372036854775807) :
    Calls Tryz.prog 48 #[ptr g, .slice ad l.length cap] w fun e w' => e = .returned (.int .i64 (Wl.drp s l).1) ∧ FaR w w' b m (Wl.drp s l).2 := by
  have HS := Lib.hid (hf.cells h)
  have HI : Hid (∀ w', Td w w' b m → IntsAt w' ad l) := fun w' k => Td.ints hl k hd
  have HR := Lib.hid hr
  have HD := Lib.hid h
  clear h hf hl hd hr
  go_enter Tryz.func48, Tryz.ntmps48
  go_wp2
  go_loopw [10] (fun i wr => ∃ (k : Nat) (s' : St), k ≤ l.length ∧ i = .int .i64 (k : Int) ∧ (∃ A', DAt wr b m A' s') ∧ Td w wr b m ∧ Wl.drp s l = Wl.drp s' (l.drop k)) (fun i _ => l.length - (intOf i).toNat)
  case atStart => exact ⟨0, s, Nat.zero_le _, rfl, ⟨A, HD.out⟩, Td.refl _ _ _, by rw [List.drop_zero]⟩
  case round =>
    obtain ⟨k, s', hk, rfl, ⟨A', hd'⟩, ht, he⟩ := hrel
    by_cases hlt : k < l.length
    · obtain ⟨x, off, hade, hxb, hxc⟩ := HI.out _ ht k hlt
      obtain ⟨c0, c1⟩ := HS.out _ ht
      have hrr := HR.out _ (List.getElem_mem hlt)
      have HM := Lib.hid (remove_any hd' (n := l[k]) hrr.1 hrr.2)
      have HT := Lib.hid ht
      rw [List.drop_eq_getElem_cons hlt] at he
      have HE := Lib.hid he
      subst hade
      clear ht he hd' hrr HI HR HS HD
      generalize l[k] = y at *
      by_cases e1 : Dk.stpE s' 3 y 0 = 0
      · rw [e1] at HM
        go_wp2_with fail
        refine HM.out.mono ?_
        rintro e w2 ⟨rfl, hr2⟩
        have HR2 := Lib.hid hr2
        clear hr2
        go_wp2
        go_roundw
        case rel => exact ⟨k + 1, Dk.stpS s' 3 y 0, by omega, by simp, HR2.out.1, HT.out.trans HR2.out.2, by rw [HE.out, drp_cons, if_pos e1]⟩
        case measure => simp [intOf]; omega
      · have e1b : (Dk.stpE s' 3 y 0 == 0) = false := by simpa using e1
        have HQ : Hid ((Wl.drp s l).1 = Dk.stpE s' 3 y 0 ∧ (Wl.drp s l).2 = Dk.stpS s' 3 y 0) := by
          show _ ∧ _
          rw [HE.out, drp_cons, if_neg e1]; exact ⟨rfl, rfl⟩
        clear HE
        generalize Dk.stpE s' 3 y 0 = eB at *
        generalize Dk.stpS s' 3 y 0 = sB at *
        go_wp2_with fail
        refine HM.out.mono ?_
        rintro e w2 ⟨rfl, hr2⟩
        have HR2 := Lib.hid hr2
        clear hr2
        go_wp2
        go_ret
        exact ⟨by rw [HQ.out.1]; rfl, by rw [HQ.out.2]; exact FaR.td HT.out HR2.out⟩
    · obtain rfl : k = l.length := by omega
      rw [List.drop_length] at he
      have HQ := Lib.hid he
      have HW : Hid (FaR w wr b m s') := ⟨⟨A', hd'⟩, ht⟩
      clear ht he hd' HI HR HS HD
      go_wp2
      go_ret
      exact ⟨by rw [HQ.out]; rfl, by rw [HQ.out]; exact HW.out⟩
set_option maxHeartbeats 4000000 in
set_option maxRecDepth 100000 in
theorem cutf_any {gd : Nat} (h : DAt w b m A s) (hf : Fa w g b n) (h0 : -9223372036854775808 ≤ n) (h1 : n ≤ 9223372036854775807) :
    Calls Tryz.prog 61 #[ptr g, .int .i64 (gd : Int)] w fun e w' => e = .returned (.int .i64 (Wl.trm s n gd).1) ∧ FaR w w' b m (Wl.trm s n gd).2 := by
  have HA := Lib.hid (fsize_any h hf)
  have HS := Lib.hid (hf.cells h)
  have HD := Lib.hid h
  have HC : Hid (∀ w2, Gr w w2 → Calls Tryz.prog 83 #[ptr b, .int .i64 n, .int .i64 (gd : Int)] w2 fun e w' => e = .returned (.int .i64 (Dk.stpE s 2 n gd)) ∧ FaR w2 w' b m (Dk.stpS s 2 n gd)) := fun w2 k => cut_any (h.gr k) h0 h1 _
  clear h hf
  unfold Wl.trm
  generalize (Dk.get s.L n).d.size = fz at *
  by_cases e1 : gd < fz
  · rw [if_pos e1]
    have e1b : decide ((fz : Int) ≤ (gd : Int)) = false := decide_eq_false (by omega)
    have e1c : ¬ ((fz : Int) ≤ (gd : Int)) := by omega
    generalize Dk.stpE s 2 n gd = eB at *
    generalize Dk.stpS s 2 n gd = sB at *
    go_enter Tryz.func61, Tryz.ntmps61
    go_wp2_with fail
    refine HA.out.mono ?_
    rintro e w2 ⟨rfl, hg2⟩
    have HG2 := Lib.hid hg2
    clear hg2
    go_upto_region 3 with fail
    refine wp_region_held_drew (S := (fun w' => w'.cell? ⟨g, 0, none⟩ = some (ptr b) ∧ w'.cell? ⟨g, 1, none⟩ = some (.int .i64 n))) (by kernel_rfl) (by first | with_reducible exact hHeld | with_reducible exact HS.out _ HT3.out | with_reducible exact HS.out _ (Td.gr HG2.out.drew)) (fun hHeld => ?_)
    refine take_yes 0 9 (v := ?_) rfl rfl (by kernel_rfl) (by kernel_rfl) (by kernel_rfl) (fun _ _ _ h => h) (by rfl) ?_ hHeld ?_
    rotate_left
    · (intro w hSw; (try dsimp only at hSw); go_simp; try with_reducible rfl)
    simp only [Act.put, List.setIfInBounds_toArray, List.set_cons_zero, List.set_cons_succ]
    refine take_yes 1 10 (v := ?_) rfl rfl (by kernel_rfl) (by kernel_rfl) (by kernel_rfl) (fun _ _ _ h => h) (by rfl) ?_ hHeld ?_
    rotate_left
    · (intro w hSw; (try dsimp only at hSw); go_simp; try with_reducible rfl)
    simp only [Act.put, List.setIfInBounds_toArray, List.set_cons_zero, List.set_cons_succ]
    refine take_yes 2 11 (v := ?_) rfl rfl (by kernel_rfl) (by kernel_rfl) (by kernel_rfl) (fun _ _ _ h => h) (by rfl) ?_ hHeld ?_
    rotate_left
    · (intro w hSw; (try dsimp only at hSw); go_simp; try with_reducible rfl)
    simp only [Act.put, List.setIfInBounds_toArray, List.set_cons_zero, List.set_cons_succ]
    refine take_yes 3 12 (v := ?_) rfl rfl (by kernel_rfl) (by kernel_rfl) (by kernel_rfl) (fun _ _ _ h => h) (by rfl) ?_ hHeld ?_
    rotate_left
    · (intro w hSw; (try dsimp only at hSw); go_simp; try with_reducible rfl)
    simp only [Act.put, List.setIfInBounds_toArray, List.set_cons_zero, List.set_cons_succ]
    refine take_yes 4 13 (v := ?_) rfl rfl (by kernel_rfl) (by kernel_rfl) (by kernel_rfl) (fun _ _ _ h => h) (by rfl) ?_ hHeld ?_
    rotate_left
    · (intro w hSw; (try dsimp only at hSw); go_simp; try with_reducible rfl)
    simp only [Act.put, List.setIfInBounds_toArray, List.set_cons_zero, List.set_cons_succ]
    refine take_yes 5 14 (v := ?_) rfl rfl (by kernel_rfl) (by kernel_rfl) (by kernel_rfl) (fun _ _ _ h => h) (by rfl) ?_ hHeld ?_
    rotate_left
    · (intro w hSw; (try dsimp only at hSw); go_simp; try with_reducible rfl)
    simp only [Act.put, List.setIfInBounds_toArray, List.set_cons_zero, List.set_cons_succ]
    refine take_yes 6 15 (v := ?_) rfl rfl (by kernel_rfl) (by kernel_rfl) (by kernel_rfl) (fun _ _ _ h => h) (by rfl) ?_ hHeld ?_
    rotate_left
    · (intro w hSw; (try dsimp only at hSw); go_simp; try with_reducible rfl)
    simp only [Act.put, List.setIfInBounds_toArray, List.set_cons_zero, List.set_cons_succ]
    refine take_yes 7 16 (v := ?_) rfl rfl (by kernel_rfl) (by kernel_rfl) (by kernel_rfl) (fun _ _ _ h => h) (by rfl) ?_ hHeld ?_
    rotate_left
    · (intro w hSw; (try dsimp only at hSw); go_simp; try with_reducible rfl)
    simp only [Act.put, List.setIfInBounds_toArray, List.set_cons_zero, List.set_cons_succ]
    refine take_yes 8 17 (v := ?_) rfl rfl (by kernel_rfl) (by kernel_rfl) (by kernel_rfl) (fun _ _ _ h => h) (by rfl) ?_ hHeld ?_
    rotate_left
    · (intro w hSw; (try dsimp only at hSw); go_simp; try with_reducible rfl)
    simp only [Act.put, List.setIfInBounds_toArray, List.set_cons_zero, List.set_cons_succ]
    refine wpAnyH_ready (rs := [9]) (by kernel_rfl) (by simp) (AllReadyH.cons rfl (fun K hK => ?_) AllReadyH.nil)
    go_simp
    (go_at_call 83; refine (HC.out _ HG2.out.drew).mono ?_; rintro e w3 ⟨rfl, hr3⟩; have HT3 := Lib.hid ((Td.gr HG2.out.drew).trans hr3.2); have HR3 := Lib.hid hr3.1; clear hr3)
    (try go_wp2_with fail)
    refine hK.out _ _ (by first | with_reducible exact hHeld | with_reducible exact HS.out _ HT3.out | with_reducible exact HS.out _ (Td.gr HG2.out.drew)) (fun hHeldN => ?_)
    clear hHeld hK K
    have hHeld := hHeldN
    clear hHeldN
    refine take_yes 10 4 (v := ?_) rfl rfl (by kernel_rfl) (by kernel_rfl) (by kernel_rfl) (fun _ _ _ h => h) (by rfl) ?_ hHeld ?_
    rotate_left
    · (intro w hSw; (try dsimp only at hSw); go_simp; try with_reducible rfl)
    simp only [Act.put, List.setIfInBounds_toArray, List.set_cons_zero, List.set_cons_succ]
    refine wpAnyH_done (by kernel_rfl) ?_ _
    clear hHeld
    go_wp2
    go_ret
    exact ⟨rfl, HR3.out, HT3.out⟩
  · rw [if_neg e1]
    have e1b : decide ((fz : Int) ≤ (gd : Int)) = true := decide_eq_true (by omega)
    have e1c : (fz : Int) ≤ (gd : Int) := by omega
    clear HC
    go_enter Tryz.func61, Tryz.ntmps61
    go_wp2_with fail
    refine HA.out.mono ?_
    rintro e w2 ⟨rfl, hg2⟩
    have HG2 := Lib.hid hg2
    clear hg2
    go_wp2
    go_ret
    exact ⟨rfl, (FaR.refl HD.out).up HG2.out⟩
def menE (s : St) (n : Int) (gd : Nat) (l : List Int) : Int := if (Wl.trm s n gd).1 = 0 then (Wl.drp (Wl.trm s n gd).2 l).1 else (Wl.trm s n gd).1
def menS (s : St) (n : Int) (gd : Nat) (l : List Int) : St := if (Wl.trm s n gd).1 = 0 then (Wl.drp (Wl.trm s n gd).2 l).2 else (Wl.trm s n gd).2
set_option maxHeartbeats 4000000 in
set_option maxRecDepth 100000 in
theorem mend_any {gd : Nat} (h : DAt w b m A s) (hf : Fa w g b n) (h0 : -9223372036854775808 ≤ n) (h1 : n ≤ 9223372036854775807) {l : List Int} {ad : Option Addr} {cap : Nat} (hl : IntsAt w ad l) (hd : ∀ p, ad = some p → p.block ≠ b ∧ p.block ≠ m) (hlen : l.length ≤ 9223372036854775807) (hr : ∀ x ∈ l, -9223372036854775808 ≤ x ∧ x ≤ 9223372036854775807) :
    Calls Tryz.prog 33 #[ptr g, .int .i64 (gd : Int), .slice ad l.length cap] w fun e w' => e = .returned (.int .i64 (menE s n gd l)) ∧ FaR w w' b m (menS s n gd l) := by
  have HA := Lib.hid (cutf_any (gd := gd) h hf h0 h1)
  have HM : Hid (∀ w2, FaR w w2 b m (Wl.trm s n gd).2 → Calls Tryz.prog 48 #[ptr g, .slice ad l.length cap] w2 fun e w' => e = .returned (.int .i64 (Wl.drp (Wl.trm s n gd).2 l).1) ∧ FaR w2 w' b m (Wl.drp (Wl.trm s n gd).2 l).2) := by
    intro w2 k
    obtain ⟨⟨A2, k1⟩, k2⟩ := k
    exact remove_all k1 (hf.td h k2) (Td.ints hl k2 hd) hd hlen hr
  unfold menE menS
  clear h hf hl hd hr
  generalize Wl.trm s n gd = T at *
  obtain ⟨eT, sT⟩ := T
  simp only at *
  by_cases e1 : eT = 0
  · subst e1
    rw [if_pos rfl, if_pos rfl]
    go_enter Tryz.func33, Tryz.ntmps33
    go_wp2_with fail
    refine HA.out.mono ?_
    rintro e w2 ⟨rfl, hr2⟩
    have HR2 := Lib.hid hr2
    clear hr2
    go_wp2_with fail
    refine (HM.out _ HR2.out).mono ?_
    rintro e w3 ⟨rfl, hr3⟩
    have HR3 := Lib.hid hr3
    clear hr3
    go_wp2
    go_ret
    exact ⟨rfl, FaR.td HR2.out.2 HR3.out⟩
  · rw [if_neg e1, if_neg e1]
    have e1b : (eT == 0) = false := by simpa using e1
    go_enter Tryz.func33, Tryz.ntmps33
    go_wp2_with fail
    refine HA.out.mono ?_
    rintro e w2 ⟨rfl, hr2⟩
    have HR2 := Lib.hid hr2
    clear hr2
    go_wp2
    go_ret
    exact ⟨rfl, HR2.out⟩
theorem seal_yes {b : ByteArray} (h : b.size ≤ 30000) : (⟨(Sl.sealE 3 b.data.toList).1.toArray⟩ : ByteArray) = Wl.fr b ∧ (Sl.sealE 3 b.data.toList).2 = 0 := by
  rw [Sg.seal3, if_pos h]; exact ⟨rfl, rfl⟩
theorem seal_no {b : ByteArray} (h : ¬ b.size ≤ 30000) : (Sl.sealE 3 b.data.toList).2 = 3 := by
  rw [Sg.seal3, if_neg h]
theorem fr_le {b : ByteArray} (h : b.size ≤ 30000) : (Wl.fr b).size ≤ b.size + 20 := by
  have := Sg.seal_len b
  rw [Sg.seal3, if_pos h] at this
  rw [Wl.fr_size]; exact this
set_option maxHeartbeats 4000000 in
set_option maxRecDepth 100000 in
theorem wbegin_any (h : DAt w b m A s) (hf : Fa w g b n) (hT : Tab w) (d : ByteArray) (h0 : -9223372036854775808 ≤ n) (h1 : n ≤ 9223372036854775807) (hd : d.size ≤ 9223372036854775807) :
    Calls Tryz.prog 47 #[ptr g, .string d] w fun e w' => e = .returned (.int .i64 (Wl.beg s n d).2.1) ∧ FaR w w' b m (Wl.beg s n d).2.2 := by
  have HB := Lib.hid (begin_any d w hT hd)
  have HD := Lib.hid h
  by_cases e1 : d.size ≤ 30000
  · obtain ⟨q1, q2⟩ := beg_ok e1 s n
    rw [q1, q2]
    rw [(seal_yes e1).1, (seal_yes e1).2] at HB
    have HL : Hid (∀ w2, Gr w w2 → Calls Tryz.prog 46 #[ptr g, .string (Wl.fr d)] w2 fun e w' => e = .returned (.int .i64 (layE s n (Wl.fr d))) ∧ FaR w2 w' b m (layS s n (Wl.fr d))) := fun w2 k => lay_any (h.gr k) (hf.gr k) _ h0 h1
    clear h hf hT q1 q2
    generalize layE s n (Wl.fr d) = eL at *
    generalize layS s n (Wl.fr d) = sL at *
    generalize Wl.fr d = F at *
    go_enter Tryz.func47, Tryz.ntmps47
    go_wp2_with fail
    refine HB.out.mono ?_
    rintro e w2 ⟨rfl, hg2⟩
    have HG2 := Lib.hid hg2
    clear hg2
    go_wp2_with fail
    refine (HL.out _ HG2.out).mono ?_
    rintro e w3 ⟨rfl, hr3⟩
    have HR3 := Lib.hid hr3
    clear hr3
    go_wp2
    go_ret
    exact ⟨rfl, FaR.td (Td.gr HG2.out) HR3.out⟩
  · have q : Wl.beg s n d = (0, 3, s) := by unfold Wl.beg; rw [if_neg e1]
    rw [q]
    rw [seal_no e1] at HB
    clear h hf hT q
    generalize (⟨(Sl.sealE 3 d.data.toList).1.toArray⟩ : ByteArray) = F at *
    go_enter Tryz.func47, Tryz.ntmps47
    go_wp2_with fail
    refine HB.out.mono ?_
    rintro e w2 ⟨rfl, hg2⟩
    have HG2 := Lib.hid hg2
    clear hg2
    go_wp2
    go_ret
    exact ⟨rfl, (FaR.refl HD.out).up HG2.out⟩
def alnE (s : St) (n : Int) (d : ByteArray) (l : List Int) : Int := if (Wl.drp s l).1 = 0 then (Wl.beg (Wl.drp s l).2 n d).2.1 else (Wl.drp s l).1
def alnS (s : St) (n : Int) (d : ByteArray) (l : List Int) : St := if (Wl.drp s l).1 = 0 then (Wl.beg (Wl.drp s l).2 n d).2.2 else (Wl.drp s l).2
set_option maxHeartbeats 4000000 in
set_option maxRecDepth 100000 in
theorem alone_any {u : World} (h : DAt w b m A s) (hf : Fa w g b n) (hT : Tab u) (hu : Gr u w) (hub : u.heap.size ≤ b) (hum : u.heap.size ≤ m) (d : ByteArray) (h0 : -9223372036854775808 ≤ n) (h1 : n ≤ 9223372036854775807) (hds : d.size ≤ 9223372036854775807) {l : List Int} {ad : Option Addr} {cap : Nat} (hl : IntsAt w ad l) (hd : ∀ p, ad = some p → p.block ≠ b ∧ p.block ≠ m) (hlen : l.length ≤ 9223372036854775807) (hr : ∀ x ∈ l, -9223372036854775808 ≤ x ∧ x ≤ 9223372036854775807) :
    Calls Tryz.prog 32 #[ptr g, .string d, .slice ad l.length cap] w fun e w' => e = .returned (.int .i64 (alnE s n d l)) ∧ FaR w w' b m (alnS s n d l) := by
  have HA := Lib.hid (remove_all (cap := cap) h hf hl hd hlen hr)
  have HM : Hid (∀ w2, FaR w w2 b m (Wl.drp s l).2 → Calls Tryz.prog 47 #[ptr g, .string d] w2 fun e w' => e = .returned (.int .i64 (Wl.beg (Wl.drp s l).2 n d).2.1) ∧ FaR w2 w' b m (Wl.beg (Wl.drp s l).2 n d).2.2) := by
    intro w2 k
    obtain ⟨⟨A2, k1⟩, k2⟩ := k
    exact wbegin_any k1 (hf.td h k2) (hT.gr (td_gr hu k2 hub hum)) d h0 h1 hds
  unfold alnE alnS
  clear h hf hl hd hr hT hu
  generalize Wl.drp s l = T at *
  obtain ⟨eT, sT⟩ := T
  simp only at *
  by_cases e1 : eT = 0
  · subst e1
    rw [if_pos rfl, if_pos rfl]
    generalize (Wl.beg sT n d).2.1 = eL at *
    generalize (Wl.beg sT n d).2.2 = sL at *
    go_enter Tryz.func32, Tryz.ntmps32
    go_wp2_with fail
    refine HA.out.mono ?_
    rintro e w2 ⟨rfl, hr2⟩
    have HR2 := Lib.hid hr2
    clear hr2
    go_wp2_with fail
    refine (HM.out _ HR2.out).mono ?_
    rintro e w3 ⟨rfl, hr3⟩
    have HR3 := Lib.hid hr3
    clear hr3
    go_wp2
    go_ret
    exact ⟨rfl, FaR.td HR2.out.2 HR3.out⟩
  · rw [if_neg e1, if_neg e1]
    have e1b : (eT == 0) = false := by simpa using e1
    clear HM
    go_enter Tryz.func32, Tryz.ntmps32
    go_wp2_with fail
    refine HA.out.mono ?_
    rintro e w2 ⟨rfl, hr2⟩
    have HR2 := Lib.hid hr2
    clear hr2
    go_wp2
    go_ret
    exact ⟨rfl, HR2.out⟩
end Go.Proofs.YtojmhhmpmpbpfaaGreatDoor
