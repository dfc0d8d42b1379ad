
/- The statements' own: same. -/
import Derived.Test.YtpnlebegenkdkaaPkA
namespace Go.Proofs.Ytpnlebegenkdkaa
open Go.RowKit Go.Maps
open Dk (Fl Fo St Ok Up zf used)
variable {a w w' : World} {b m r : Nat} {s : St}

set_option maxHeartbeats 16000000 in
set_option maxRecDepth 100000 in
theorem same_any (hp : Pq a w b m r s s) : Calls Try.prog 14 #[ptr b, ptr r] w fun e w' => e = .returned (.bool true) ∧ Gr w w' := by
  obtain ⟨A, hA⟩ := hp.nw.at_
  obtain ⟨fa, fc, ka, kc, hr⟩ := hp.rf
  have HF := Lib.hid (files_any hA)
  have HU : Hid (∀ w', Gr w w' → Calls Try.prog 26 #[ptr b] w' fun e w2 => e = .returned (.int .i64 (used s.L : Int)) ∧ Gr w' w2) := fun w' g => used_any (hA.gr g)
  have HRU : Hid (∀ w', Gr w w' → Calls Try.prog 36 #[ptr r] w' fun e w2 => e = .returned (.int .i64 (used s.L : Int)) ∧ w2 = w') := fun w' g => rused_any (hr.gr g)
  have HD : Hid (∀ w', Gr w w' → Calls Try.prog 25 #[ptr b] w' fun e w2 => e = .returned (.bool s.dead) ∧ w2 = w') := fun w' g => dead_any (hA.gr g)
  have HI : Hid (∀ w', Gr w w' → Calls Try.prog 28 #[ptr b] w' fun e w2 => ImR w' w2 s.L e) := fun w' g => image_any (hA.gr g)
  have HSm : Hid (∀ w' ai ci, Gr w w' → RowAt flf w' ai s.L → Calls Try.prog 37 #[.slice ai s.L.length ci, .slice fa s.L.length fc] w' fun e w2 => e = .returned (.bool true) ∧ Gr w' w2) := fun w' ai ci g h => rsame_eq s.L ai fa ci fc w' h (hr.row.gr g) (by have := hA.ok.len; omega)
  have HRd : Hid (∀ w' (f : Fl), f ∈ s.L → Gr w w' → Calls Try.prog 17 #[ptr b, .int .i64 f.n] w' fun e w2 => e = .returned (.tuple #[.string (fndF s f.n).d, .int .i64 (fndE s f.n)]) ∧ Gr w' w2) := fun w' f hf g => read_any (hA.gr g) (by have := (hA.ok.fo f hf).n0; omega) (by have := (hA.ok.fo f hf).n1; omega)
  have HRR : Hid (∀ w' (n : Int), Gr w w' → Calls Try.prog 38 #[ptr r, .int .i64 n] w' fun e w2 => e = .returned (.tuple #[.string (fndF s n).d, .int .i64 (fndE s n)]) ∧ w2 = w') := fun w' n g => rread_any (hr.gr g) n
  have HC : Hid (∀ w', Gr w w' → w'.cell? ⟨r, 4, none⟩ = some (.slice fa s.L.length fc) ∧ w'.cell? ⟨r, 1, none⟩ = some (.bool s.dead)) := fun w' g => ⟨(hr.gr g).fl, (hr.gr g).gn⟩
  have HRw := Lib.hid hr.row
  have hl8 := hA.ok.len
  have hfc := hr.cap
  clear hp hA hr
  go_enter Try.func14, Try.ntmps14
  go_wp2_with fail
  refine HF.out.mono ?_
  rintro e w1 ⟨v, rfl, hrow, _, hg1⟩
  rw [nms_flat] at hrow
  obtain ⟨na, nc, rfl, _, _, hR, _, _⟩ := own_row hrow
  have G1 := Lib.hid hg1
  have HNm := Lib.hid hR
  clear hrow hg1 hR HF
  generalize hus : used s.L = us at *
  generalize hdd : s.dead = dd at *
  go_upto_region 2 with fail
  refine wp_region_held_drew (S := (fun w' => w'.cell? ⟨r, 4, none⟩ = some (.slice fa s.L.length fc) ∧ w'.cell? ⟨r, 1, none⟩ = some (.bool dd))) (by kernel_rfl) (by first | with_reducible exact hHeld | with_reducible exact HC.out _ G1.out.drew | with_reducible exact HC.out _ G5.out | with_reducible exact HC.out _ G4.out | with_reducible exact HC.out _ G2.out) (fun hHeld => ?_)
  refine take_yes 0 13 (v := ?_) rfl rfl (by kernel_rfl) (by kernel_rfl) (by kernel_rfl) (fun _ _ _ h => h) (by rfl) ?_ hHeld ?_
  rotate_left
  · (intro w hSw; (try dsimp only at hSw); go_simp; try with_reducible rfl)
  simp only [Act.put, List.setIfInBounds_toArray, List.set_cons_zero, List.set_cons_succ]
  refine take_yes 1 14 (v := ?_) rfl rfl (by kernel_rfl) (by kernel_rfl) (by kernel_rfl) (fun _ _ _ h => h) (by rfl) ?_ hHeld ?_
  rotate_left
  · (intro w hSw; (try dsimp only at hSw); go_simp; try with_reducible rfl)
  simp only [Act.put, List.setIfInBounds_toArray, List.set_cons_zero, List.set_cons_succ]
  refine take_yes 2 15 (v := ?_) rfl rfl (by kernel_rfl) (by kernel_rfl) (by kernel_rfl) (fun _ _ _ h => h) (by rfl) ?_ hHeld ?_
  rotate_left
  · (intro w hSw; (try dsimp only at hSw); go_simp; try with_reducible rfl)
  simp only [Act.put, List.setIfInBounds_toArray, List.set_cons_zero, List.set_cons_succ]
  refine take_yes 3 16 (v := ?_) rfl rfl (by kernel_rfl) (by kernel_rfl) (by kernel_rfl) (fun _ _ _ h => h) (by rfl) ?_ hHeld ?_
  rotate_left
  · (intro w hSw; (try dsimp only at hSw); go_simp; try with_reducible rfl)
  simp only [Act.put, List.setIfInBounds_toArray, List.set_cons_zero, List.set_cons_succ]
  refine take_yes 4 17 (v := ?_) rfl rfl (by kernel_rfl) (by kernel_rfl) (by kernel_rfl) (fun _ _ _ h => h) (by rfl) ?_ hHeld ?_
  rotate_left
  · (intro w hSw; (try dsimp only at hSw); go_simp; try with_reducible rfl)
  simp only [Act.put, List.setIfInBounds_toArray, List.set_cons_zero, List.set_cons_succ]
  refine take_yes 5 18 (v := ?_) rfl rfl (by kernel_rfl) (by kernel_rfl) (by kernel_rfl) (fun _ _ _ h => h) (by rfl) ?_ hHeld ?_
  rotate_left
  · (intro w hSw; (try dsimp only at hSw); go_simp; try with_reducible rfl)
  simp only [Act.put, List.setIfInBounds_toArray, List.set_cons_zero, List.set_cons_succ]
  refine take_yes 6 19 (v := ?_) rfl rfl (by kernel_rfl) (by kernel_rfl) (by kernel_rfl) (fun _ _ _ h => h) (by rfl) ?_ hHeld ?_
  rotate_left
  · (intro w hSw; (try dsimp only at hSw); go_simp; try with_reducible rfl)
  simp only [Act.put, List.setIfInBounds_toArray, List.set_cons_zero, List.set_cons_succ]
  refine take_yes 7 20 (v := ?_) rfl rfl (by kernel_rfl) (by kernel_rfl) (by kernel_rfl) (fun _ _ _ h => h) (by rfl) ?_ hHeld ?_
  rotate_left
  · (intro w hSw; (try dsimp only at hSw); go_simp; try with_reducible rfl)
  simp only [Act.put, List.setIfInBounds_toArray, List.set_cons_zero, List.set_cons_succ]
  refine take_yes 8 21 (v := ?_) rfl rfl (by kernel_rfl) (by kernel_rfl) (by kernel_rfl) (fun _ _ _ h => h) (by rfl) ?_ hHeld ?_
  rotate_left
  · (intro w hSw; (try dsimp only at hSw); go_simp; try with_reducible rfl)
  simp only [Act.put, List.setIfInBounds_toArray, List.set_cons_zero, List.set_cons_succ]
  refine take_yes 9 22 (v := ?_) rfl rfl (by kernel_rfl) (by kernel_rfl) (by kernel_rfl) (fun _ _ _ h => h) (by rfl) ?_ hHeld ?_
  rotate_left
  · (intro w hSw; (try dsimp only at hSw); go_simp; try with_reducible rfl)
  simp only [Act.put, List.setIfInBounds_toArray, List.set_cons_zero, List.set_cons_succ]
  refine take_yes 11 24 (v := ?_) rfl rfl (by kernel_rfl) (by kernel_rfl) (by kernel_rfl) (fun _ _ _ h => h) (by rfl) ?_ hHeld ?_
  rotate_left
  · (intro w hSw; (try dsimp only at hSw); go_simp; try with_reducible rfl)
  simp only [Act.put, List.setIfInBounds_toArray, List.set_cons_zero, List.set_cons_succ]
  refine wpAnyH_ready (rs := [10]) (by kernel_rfl) (by simp) (AllReadyH.cons rfl (fun K hK => ?_) AllReadyH.nil)
  go_simp
  (go_at_call 26; refine (HU.out _ G1.out.drew).mono ?_; rintro e w2 ⟨rfl, hg⟩; have G2 := Lib.hid (G1.out.drew.trans hg); have G12 := Lib.hid ((Gr.refl w1).drew.trans hg); clear hg)
  (try go_wp2_with fail)
  refine hK.out _ _ (by first | with_reducible exact hHeld | with_reducible exact HC.out _ G1.out.drew | with_reducible exact HC.out _ G5.out | with_reducible exact HC.out _ G4.out | with_reducible exact HC.out _ G2.out) (fun hHeldN => ?_)
  clear hHeld hK K
  have hHeld := hHeldN
  clear hHeldN
  refine wpAnyH_ready (rs := [12]) (by kernel_rfl) (by simp) (AllReadyH.cons rfl (fun K hK => ?_) AllReadyH.nil)
  go_simp
  (go_at_call 36; refine (HRU.out _ G2.out).mono ?_; rintro e w' ⟨rfl, hw⟩; obtain rfl := hw.symm; clear hw)
  (try go_wp2_with fail)
  refine hK.out _ _ (by first | with_reducible exact hHeld | with_reducible exact HC.out _ G1.out.drew | with_reducible exact HC.out _ G5.out | with_reducible exact HC.out _ G4.out | with_reducible exact HC.out _ G2.out) (fun hHeldN => ?_)
  clear hHeld hK K
  have hHeld := hHeldN
  clear hHeldN
  refine take_yes 13 26 (v := ?_) rfl rfl (by kernel_rfl) (by kernel_rfl) (by kernel_rfl) (fun _ _ _ h => h) (by rfl) ?_ hHeld ?_
  rotate_left
  · (intro w hSw; (try dsimp only at hSw); go_simp; try with_reducible rfl)
  simp only [Act.put, List.setIfInBounds_toArray, List.set_cons_zero, List.set_cons_succ]
  refine take_yes 14 27 (v := ?_) rfl rfl (by kernel_rfl) (by kernel_rfl) (by kernel_rfl) (fun _ _ _ h => h) (by rfl) ?_ hHeld ?_
  rotate_left
  · (intro w hSw; (try dsimp only at hSw); go_simp; try with_reducible rfl)
  simp only [Act.put, List.setIfInBounds_toArray, List.set_cons_zero, List.set_cons_succ]
  refine take_yes 15 28 (v := ?_) rfl rfl (by kernel_rfl) (by kernel_rfl) (by kernel_rfl) (fun _ _ _ h => h) (by rfl) ?_ hHeld ?_
  rotate_left
  · (intro w hSw; (try dsimp only at hSw); go_simp; try with_reducible rfl)
  simp only [Act.put, List.setIfInBounds_toArray, List.set_cons_zero, List.set_cons_succ]
  refine take_yes 16 29 (v := ?_) rfl rfl (by kernel_rfl) (by kernel_rfl) (by kernel_rfl) (fun _ _ _ h => h) (by rfl) ?_ hHeld ?_
  rotate_left
  · (intro w hSw; (try dsimp only at hSw); go_simp; try with_reducible rfl)
  simp only [Act.put, List.setIfInBounds_toArray, List.set_cons_zero, List.set_cons_succ]
  refine take_yes 18 31 (v := ?_) rfl rfl (by kernel_rfl) (by kernel_rfl) (by kernel_rfl) (fun _ _ _ h => h) (by rfl) ?_ hHeld ?_
  rotate_left
  · (intro w hSw; (try dsimp only at hSw); go_simp; try with_reducible rfl)
  simp only [Act.put, List.setIfInBounds_toArray, List.set_cons_zero, List.set_cons_succ]
  refine take_yes 19 32 (v := ?_) rfl rfl (by kernel_rfl) (by kernel_rfl) (by kernel_rfl) (fun _ _ _ h => h) (by rfl) ?_ hHeld ?_
  rotate_left
  · (intro w hSw; (try dsimp only at hSw); go_simp; try with_reducible rfl)
  simp only [Act.put, List.setIfInBounds_toArray, List.set_cons_zero, List.set_cons_succ]
  refine take_yes 20 33 (v := ?_) rfl rfl (by kernel_rfl) (by kernel_rfl) (by kernel_rfl) (fun _ _ _ h => h) (by rfl) ?_ hHeld ?_
  rotate_left
  · (intro w hSw; (try dsimp only at hSw); go_simp; try with_reducible rfl)
  simp only [Act.put, List.setIfInBounds_toArray, List.set_cons_zero, List.set_cons_succ]
  refine take_yes 21 34 (v := ?_) rfl rfl (by kernel_rfl) (by kernel_rfl) (by kernel_rfl) (fun _ _ _ h => h) (by rfl) ?_ hHeld ?_
  rotate_left
  · (intro w hSw; (try dsimp only at hSw); go_simp; try with_reducible rfl)
  simp only [Act.put, List.setIfInBounds_toArray, List.set_cons_zero, List.set_cons_succ]
  refine wpAnyH_ready (rs := [17]) (by kernel_rfl) (by simp) (AllReadyH.cons rfl (fun K hK => ?_) AllReadyH.nil)
  go_simp
  (go_at_call 25; refine (HD.out _ G2.out).mono ?_; rintro e w' ⟨rfl, hw⟩; obtain rfl := hw.symm; clear hw)
  (try go_wp2_with fail)
  refine hK.out _ _ (by first | with_reducible exact hHeld | with_reducible exact HC.out _ G1.out.drew | with_reducible exact HC.out _ G5.out | with_reducible exact HC.out _ G4.out | with_reducible exact HC.out _ G2.out) (fun hHeldN => ?_)
  clear hHeld hK K
  have hHeld := hHeldN
  clear hHeldN
  refine take_yes 22 35 (v := ?_) rfl rfl (by kernel_rfl) (by kernel_rfl) (by kernel_rfl) (fun _ _ _ h => h) (by rfl) ?_ hHeld ?_
  rotate_left
  · (intro w hSw; (try dsimp only at hSw); go_simp; try with_reducible rfl)
  simp only [Act.put, List.setIfInBounds_toArray, List.set_cons_zero, List.set_cons_succ]
  refine take_yes 23 36 (v := ?_) rfl rfl (by kernel_rfl) (by kernel_rfl) (by kernel_rfl) (fun _ _ _ h => h) (by rfl) ?_ hHeld ?_
  rotate_left
  · (intro w hSw; (try dsimp only at hSw); go_simp; try with_reducible rfl)
  simp only [Act.put, List.setIfInBounds_toArray, List.set_cons_zero, List.set_cons_succ]
  refine take_yes 24 37 (v := ?_) rfl rfl (by kernel_rfl) (by kernel_rfl) (by kernel_rfl) (fun _ _ _ h => h) (by rfl) ?_ hHeld ?_
  rotate_left
  · (intro w hSw; (try dsimp only at hSw); go_simp; try with_reducible rfl)
  simp only [Act.put, List.setIfInBounds_toArray, List.set_cons_zero, List.set_cons_succ]
  refine take_yes 25 38 (v := ?_) rfl rfl (by kernel_rfl) (by kernel_rfl) (by kernel_rfl) (fun _ _ _ h => h) (by rfl) ?_ hHeld ?_
  rotate_left
  · (intro w hSw; (try dsimp only at hSw); go_simp; try with_reducible rfl)
  simp only [Act.put, List.setIfInBounds_toArray, List.set_cons_zero, List.set_cons_succ]
  refine take_yes 27 40 (v := ?_) rfl rfl (by kernel_rfl) (by kernel_rfl) (by kernel_rfl) (fun _ _ _ h => h) (by rfl) ?_ hHeld ?_
  rotate_left
  · (intro w hSw; (try dsimp only at hSw); go_simp; try with_reducible rfl)
  simp only [Act.put, List.setIfInBounds_toArray, List.set_cons_zero, List.set_cons_succ]
  refine take_yes 28 41 (v := ?_) rfl rfl (by kernel_rfl) (by kernel_rfl) (by kernel_rfl) (fun _ _ _ h => h) (by rfl) ?_ hHeld ?_
  rotate_left
  · (intro w hSw; (try dsimp only at hSw); go_simp; try with_reducible rfl)
  simp only [Act.put, List.setIfInBounds_toArray, List.set_cons_zero, List.set_cons_succ]
  refine take_yes 29 42 (v := ?_) rfl rfl (by kernel_rfl) (by kernel_rfl) (by kernel_rfl) (fun _ _ _ h => h) (by rfl) ?_ hHeld ?_
  rotate_left
  · (intro w hSw; (try dsimp only at hSw); go_simp; try with_reducible rfl)
  simp only [Act.put, List.setIfInBounds_toArray, List.set_cons_zero, List.set_cons_succ]
  refine take_yes 30 43 (v := ?_) rfl rfl (by kernel_rfl) (by kernel_rfl) (by kernel_rfl) (fun _ _ _ h => h) (by rfl) ?_ hHeld ?_
  rotate_left
  · (intro w hSw; (try dsimp only at hSw); go_simp; try with_reducible rfl)
  simp only [Act.put, List.setIfInBounds_toArray, List.set_cons_zero, List.set_cons_succ]
  refine wpAnyH_ready (rs := [26]) (by kernel_rfl) (by simp) (AllReadyH.cons rfl (fun K hK => ?_) AllReadyH.nil)
  go_simp
  (go_at_call 28; refine (HI.out _ G2.out).mono ?_; rintro e w4 ⟨ia, ic, rfl, hir, _, hg⟩; have G4 := Lib.hid (G2.out.trans hg); have G14 := Lib.hid (G12.out.trans hg); have HIr := Lib.hid hir; clear hg hir)
  (try go_wp2_with fail)
  refine hK.out _ _ (by first | with_reducible exact hHeld | with_reducible exact HC.out _ G1.out.drew | with_reducible exact HC.out _ G5.out | with_reducible exact HC.out _ G4.out | with_reducible exact HC.out _ G2.out) (fun hHeldN => ?_)
  clear hHeld hK K
  have hHeld := hHeldN
  clear hHeldN
  refine wpAnyH_ready (rs := [31]) (by kernel_rfl) (by simp) (AllReadyH.cons rfl (fun K hK => ?_) AllReadyH.nil)
  go_simp
  (go_at_call 37; refine (HSm.out _ _ _ G4.out HIr.out).mono ?_; rintro e w5 ⟨rfl, hg⟩; have G5 := Lib.hid (G4.out.trans hg); have G15 := Lib.hid ((G14.out).trans hg); clear hg)
  (try go_wp2_with fail)
  refine hK.out _ _ (by first | with_reducible exact hHeld | with_reducible exact HC.out _ G1.out.drew | with_reducible exact HC.out _ G5.out | with_reducible exact HC.out _ G4.out | with_reducible exact HC.out _ G2.out) (fun hHeldN => ?_)
  clear hHeld hK K
  have hHeld := hHeldN
  clear hHeldN
  refine take_yes 32 45 (v := ?_) rfl rfl (by kernel_rfl) (by kernel_rfl) (by kernel_rfl) (fun _ _ _ h => h) (by rfl) ?_ hHeld ?_
  rotate_left
  · (intro w hSw; (try dsimp only at hSw); go_simp; try with_reducible rfl)
  simp only [Act.put, List.setIfInBounds_toArray, List.set_cons_zero, List.set_cons_succ]
  refine take_yes 33 46 (v := ?_) rfl rfl (by kernel_rfl) (by kernel_rfl) (by kernel_rfl) (fun _ _ _ h => h) (by rfl) ?_ hHeld ?_
  rotate_left
  · (intro w hSw; (try dsimp only at hSw); go_simp; try with_reducible rfl)
  simp only [Act.put, List.setIfInBounds_toArray, List.set_cons_zero, List.set_cons_succ]
  refine wpAnyH_done (by kernel_rfl) ?_ _
  clear hHeld
  have HN5 : Hid (RowAt nf w5 na s.L) := HNm.out.gr G15.out
  clear HNm G15 G12 G14 HI HSm HU HRU HD HIr G1 G2 G4
  go_wp2
  go_loopw [6] (fun i wr => ∃ k : Nat, k ≤ s.L.length ∧ i = .int .i64 (k : Int) ∧ Gr w5 wr) (fun i _ => s.L.length - (intOf i).toNat)
  case atStart => exact ⟨0, Nat.zero_le _, rfl, Gr.refl w5⟩
  case round =>
    obtain ⟨k, hk, rfl, hg⟩ := hrel
    have HG := Lib.hid (G5.out.trans hg)
    have HG5 := Lib.hid hg
    by_cases hlt : k < s.L.length
    · obtain ⟨x, off, hade, hxb, hxc⟩ := num_at HN5.out k hlt
      have hn1 := hg.keep hxc
      obtain ⟨y, off2, hade2, hyb, e0, _, _⟩ := fl_at HRw.out k hlt
      have HE0 : Hid (∀ w', Gr w w' → w'.cell? ⟨y, off2 + k * 3, none⟩ = some (.int .i64 s.L[k].n)) := fun w' g => g.keep e0
      have HR1 := Lib.hid (HRd.out wr s.L[k] (List.getElem_mem hlt) HG.out)
      have HR2 : Hid (∀ w', Gr w w' → Calls Try.prog 38 #[ptr r, .int .i64 s.L[k].n] w' fun e w2 => e = .returned (.tuple #[.string (fndF s s.L[k].n).d, .int .i64 (fndE s s.L[k].n)]) ∧ w2 = w') := fun w' g => HRR.out w' _ g
      subst hade hade2
      clear hg hxc e0
      generalize (fndF s s.L[k].n).d = rd at *
      generalize fndE s s.L[k].n = re at *
      generalize s.L[k].n = fn at *
      have hre : (re != re) = false := by simp
      go_wp2_with fail
      refine HR1.out.mono ?_
      rintro e w6 ⟨rfl, hg6⟩
      have hn1 := hg6.keep hn1
      have G6 := Lib.hid (HG.out.trans hg6)
      have G6b := Lib.hid (HG5.out.trans hg6)
      have c4 := (HC.out _ G6.out).1
      have e0 := HE0.out _ G6.out
      clear hg6 HR1
      go_upto_region 9 with (go_at_call 38; refine (HR2.out _ G6.out).mono ?_; rintro e w' ⟨rfl, hw⟩; obtain rfl := hw.symm; clear hw)
      go_quiet (fail)
      go_wp2
      go_roundw
      case rel => exact ⟨k + 1, by omega, by simp, G6b.out.dn _⟩
      case measure => simp [intOf]; omega
    · obtain rfl : k = s.L.length := by omega
      clear hg
      go_wp2
      go_ret
      exact ⟨rfl, HG.out⟩
end Go.Proofs.Ytpnlebegenkdkaa
