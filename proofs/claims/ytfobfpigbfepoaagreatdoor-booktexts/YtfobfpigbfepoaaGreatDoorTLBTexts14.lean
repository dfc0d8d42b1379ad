/- What the proof is made of, part 14. -/
import Derived.Test.YtfobfpigbfepoaaGreatDoorTLBTexts13
import Derived.Deep.DeepCutAuto
namespace Go.Proofs.YtfobfpigbfepoaaGreatDoor
open Go.RowKit
open Df (Stp)
theorem own_cell2 {w : World} {base : Nat} {e : TypeId} {size n cap g : Nat} {xs : List Value} (h : w.ownsRow base e size (.slice (some ⟨g, 0, none⟩) n cap) n xs) {j : Nat} {u : Value} (hu : xs[j]? = some u) : w.cell? ⟨g, j, none⟩ = some u ∧ w.frozen? ⟨g, j, none⟩ = false := by
  have h1 := h.cells (g := g) rfl j u hu
  rw [Addr.add_lit, Nat.zero_add] at h1
  refine ⟨h1, ?_⟩
  obtain ⟨_, ⟨e, _⟩ | ⟨g', cap', cur, e, _, hh, _⟩⟩ := h
  · cases e
  · cases e; simp [World.frozen?, hh]
structure CopyD (w : World) (b : Nat) (nm : ByteArray) (v : Value) (L : List Stp) (wr : World) : Prop where
  rs : TwoAt wr (w.heap.size + 1) (.string ⟨#[]⟩) (.slice none 0 0)
  bx : TwoAt wr b (.string nm) v
  ne : w.heap.size + 1 < b
  r : wr.ownsRow (w.heap.size + 2) 78 7 v L.length (L.flatMap stpC)
  nb : v.ownBlock ≠ some b
  g : Gr w wr
theorem CopyD.gr {w : World} {c : Nat} {nm : ByteArray} {v : Value} {L : List Stp} {a b : World} (h : CopyD w c nm v L a) (k : Gr a b) : CopyD w c nm v L b :=
  ⟨h.rs.gr k, h.bx.gr k, h.ne, own_gr2 h.r k, h.nb, h.g.trans k⟩
theorem CopyD.set {w : World} {c : Nat} {nm : ByteArray} {L : List Stp} {g cap : Nat} {a : World} (h : CopyD w c nm (.slice (some ⟨g, 0, none⟩) L.length cap) L a) (j : Nat) (u : Value) (hu : (L.flatMap stpC)[j]? = some u) :
    CopyD w c nm (.slice (some ⟨g, 0, none⟩) L.length cap) L (a.setCell ⟨g, j, none⟩ u) := by
  have hg := (h.r.lt g rfl).1
  have hn : g ≠ c := fun e => h.nb (by rw [e]; rfl)
  exact ⟨h.rs.setFar _ _ (by simp; omega), h.bx.setFar _ _ (by simpa using hn), h.ne, own_same h.r j u hu, h.nb, h.g.set _ (by simp; omega) _⟩
set_option maxHeartbeats 8000000 in
set_option maxRecDepth 100000 in
theorem copied_any (x : Dm) (w : World) (hS : StpsAt w x.ad x.L) (hn : x.L.length ≤ 1000) (hs : x.nm.size ≤ 1000) (hz : ∀ s ∈ x.L, s.a.size ≤ 1000 ∧ s.u.size ≤ 1000) :
    Calls Tryz.prog 28 #[.agg #[.string x.nm, .slice x.ad x.L.length x.cap]] w fun e w' => ∃ ad cap, e = .returned (.agg #[.string x.nm, .slice ad x.L.length cap]) ∧ w'.ownsRow w.heap.size 78 7 (.slice ad x.L.length cap) x.L.length (x.L.flatMap stpC) ∧ Gr w w' := by
  obtain ⟨nm, adS, capS, L⟩ := x
  dsimp only at *
  have HA : Hid (∀ w', Gr w w' → Calls Tryz.prog 54 #[.slice adS L.length capS] w' fun e w2 => ∃ a c, e = .returned (.slice a L.length c) ∧ w2.ownsRow w'.heap.size 78 7 (.slice a L.length c) L.length (L.flatMap stpC) ∧ Gr w' w2) := fun w' g => (cloneS_any L adS capS w' (hS.gr g) (by omega)).mono (by
    rintro e w2 ⟨v, rfl, h, g⟩
    obtain ⟨a, c, rfl, _⟩ := own_row h
    exact ⟨a, c, rfl, h, g⟩)
  have HCl : Hid (∀ (s : ByteArray) w', s.size ≤ 1000 → Calls Tryz.prog 53 #[.string s] w' fun e w2 => e = .returned (.string s) ∧ Gr w' w2) := fun s w' h => clone_any s w' (by omega)
  have HCn : Hid (∀ w', Calls Tryz.prog 53 #[.string nm] w' fun e w2 => e = .returned (.string nm) ∧ Gr w' w2) := fun w' => HCl.out _ _ hs
  have HZ : Hid (∀ s ∈ L, s.a.size ≤ 1000 ∧ s.u.size ≤ 1000) := hz
  clear hS hz hs
  go_enter Tryz.func28, Tryz.ntmps28
  go_upto_region 1 with fail
  have B0 := (TwoAt.new w (.string nm) (.slice adS L.length capS) 38 _ rfl).gr (Gr.refl _).alloc (w' := (w.alloc (.cells #[.string nm, .slice adS L.length capS] 38)).alloc (.cells #[.string ⟨#[]⟩, .slice none 0 0] 38))
  have R0 := TwoAt.new (w.alloc (.cells #[.string nm, .slice adS L.length capS] 38)) (.string ⟨#[]⟩) (.slice none 0 0) 38 (w.heap.size + 1) (by simp)
  obtain ⟨W, hW⟩ : ∃ W, W = (w.alloc (.cells #[.string nm, .slice adS L.length capS] 38)).alloc (.cells #[.string ⟨#[]⟩, .slice none 0 0] 38) := ⟨_, rfl⟩
  have hWs : W.heap.size = w.heap.size + 2 := by rw [hW]; simp
  have HGW : Hid (Gr w W) := by show Gr _ _; rw [hW]; exact (Gr.refl _).alloc.alloc
  rw [← hW] at B0 R0 ⊢
  have HR0 : Hid (TwoAt W (w.heap.size + 1) (.string ⟨#[]⟩) (.slice none 0 0)) := R0
  have HS0 : Hid ((fun w' => Gr W w' ∧ w'.cell? ⟨w.heap.size, 0, none⟩ = some (.string nm) ∧ w'.cell? ⟨w.heap.size, 1, none⟩ = some (.slice adS L.length capS)) W.drew) := ⟨(Gr.refl W).drew, B0.c0, B0.c1⟩
  have HSg : Hid (∀ a b, (fun w' => Gr W w' ∧ w'.cell? ⟨w.heap.size, 0, none⟩ = some (.string nm) ∧ w'.cell? ⟨w.heap.size, 1, none⟩ = some (.slice adS L.length capS)) a → Gr a b → (fun w' => Gr W w' ∧ w'.cell? ⟨w.heap.size, 0, none⟩ = some (.string nm) ∧ w'.cell? ⟨w.heap.size, 1, none⟩ = some (.slice adS L.length capS)) b) := by
    rintro a b ⟨h1, h2, h3⟩ gr
    exact ⟨h1.trans gr, gr.keep h2, gr.keep h3⟩
  have HSs : Hid (∀ a b x y, (fun w' => Gr W w' ∧ w'.cell? ⟨w.heap.size, 0, none⟩ = some (.string nm) ∧ w'.cell? ⟨w.heap.size, 1, none⟩ = some (.slice adS L.length capS)) a → W.heap.size ≤ b → (fun w' => Gr W w' ∧ w'.cell? ⟨w.heap.size, 0, none⟩ = some (.string nm) ∧ w'.cell? ⟨w.heap.size, 1, none⟩ = some (.slice adS L.length capS)) ((a.setCell ⟨b, 0, none⟩ x).setCell ⟨b, 1, none⟩ y)) := by
    rintro a b x y ⟨h1, h2, h3⟩ hb
    refine ⟨(h1.set _ hb _).set _ hb _, ?_, ?_⟩
    · rw [World.cell?_setCell_far _ _ _ _ (by simp; omega), World.cell?_setCell_far _ _ _ _ (by simp; omega)]; exact h2
    · rw [World.cell?_setCell_far _ _ _ _ (by simp; omega), World.cell?_setCell_far _ _ _ _ (by simp; omega)]; exact h3
  clear hW B0 R0
  go_cut [3] (fun s3 wx => ∃ b v, s3 = .pointer (some ⟨b, 0, none⟩) ∧ CopyD w b nm v L wx)
  case first =>
    have HFin : Hid (∀ b v wn, Gr W wn → World.ownsRow wn (w.heap.size + 2) 78 7 v L.length (L.flatMap stpC) → W.heap.size ≤ b → v.ownBlock ≠ some b → (∃ x y, TwoAt wn b x y) → CopyD w b nm v L ((wn.setCell ⟨b, 0, none⟩ (.string nm)).setCell ⟨b, 1, none⟩ v)) := by
      rintro b v wn g r hb hv ⟨x, y, hx⟩
      exact ⟨((HR0.out.gr g).setFar _ _ (by simp; omega)).setFar _ _ (by simp; omega), (hx.set0 _).set1 _, by omega, own_far (own_far r _ _ hv) _ _ hv, hv, ((HGW.out.trans g).set _ (by simp; omega) _).set _ (by simp; omega) _⟩
    have HFin2 : Hid (∀ v wn, Gr W wn → World.ownsRow wn (w.heap.size + 2) 78 7 v L.length (L.flatMap stpC) → CopyD w wn.heap.size nm v L (wn.alloc (.cells #[.string nm, v] 38))) := by
      intro v wn g r
      have hs := g.size
      exact ⟨(HR0.out.gr g).gr (Gr.refl _).alloc, TwoAt.new _ _ _ _ _ rfl, by omega, own_gr2 r (Gr.refl _).alloc, fun e => by have := (r.lt _ e).2; omega, (HGW.out.trans g).alloc⟩
    refine wp_region_held_drew (S := (fun w' => Gr W w' ∧ w'.cell? ⟨w.heap.size, 0, none⟩ = some (.string nm) ∧ w'.cell? ⟨w.heap.size, 1, none⟩ = some (.slice adS L.length capS))) (by kernel_rfl) (by first | with_reducible exact HS0.out | with_reducible exact HSg.out _ _ hHeld hg1 | with_reducible exact HSg.out _ _ hHeld hg2 | with_reducible exact HSg.out _ _ hHeld (Gr.refl _).alloc | exact HSg.out _ _ HP.out (Gr.refl _).alloc | exact HSs.out _ _ _ _ hHeld hbb) (fun hHeld => ?_)
    refine take_yes 0 6 (v := ?_) rfl rfl (by kernel_rfl) (by kernel_rfl) (by kernel_rfl) (fun _ _ _ h => h) (by rfl) ?_ hHeld ?_
    rotate_left
    · (intro w hSw; (try dsimp only at hSw); go_simp; try with_reducible rfl)
    simp only [Act.put, List.setIfInBounds_toArray, List.set_cons_zero, List.set_cons_succ]
    refine take_yes 1 7 (v := ?_) rfl rfl (by kernel_rfl) (by kernel_rfl) (by kernel_rfl) (fun _ _ _ h => h) (by rfl) ?_ hHeld ?_
    rotate_left
    · (intro w hSw; (try dsimp only at hSw); go_simp; try with_reducible rfl)
    simp only [Act.put, List.setIfInBounds_toArray, List.set_cons_zero, List.set_cons_succ]
    refine take_yes 3 9 (v := ?_) rfl rfl (by kernel_rfl) (by kernel_rfl) (by kernel_rfl) (fun _ _ _ h => h) (by rfl) ?_ hHeld ?_
    rotate_left
    · (intro w hSw; (try dsimp only at hSw); go_simp; try with_reducible rfl)
    simp only [Act.put, List.setIfInBounds_toArray, List.set_cons_zero, List.set_cons_succ]
    refine take_yes 4 10 (v := ?_) rfl rfl (by kernel_rfl) (by kernel_rfl) (by kernel_rfl) (fun _ _ _ h => h) (by rfl) ?_ hHeld ?_
    rotate_left
    · (intro w hSw; (try dsimp only at hSw); go_simp; try with_reducible rfl)
    simp only [Act.put, List.setIfInBounds_toArray, List.set_cons_zero, List.set_cons_succ]
    refine wpAnyH_ready (rs := [2, 7]) (by kernel_rfl) (by simp) (AllReadyH.cons rfl (fun K hK => ?_) (AllReadyH.cons rfl (fun K hK => ?_) AllReadyH.nil))
    · skip
      go_simp
      (go_at_call 53; refine (HCn.out _).mono ?_; rintro e wn1 ⟨rfl, hg1⟩)
      (try go_wp2_with fail)
      refine hK.out _ _ (by first | with_reducible exact HS0.out | with_reducible exact HSg.out _ _ hHeld hg1 | with_reducible exact HSg.out _ _ hHeld hg2 | with_reducible exact HSg.out _ _ hHeld (Gr.refl _).alloc | exact HSg.out _ _ HP.out (Gr.refl _).alloc | exact HSs.out _ _ _ _ hHeld hbb) (fun hHeldN => ?_)
      clear hHeld hK K
      have hHeld := hHeldN
      clear hHeldN
      refine wpAnyH_ready (rs := [5, 7]) (by kernel_rfl) (by simp) (AllReadyH.cons rfl (fun K hK => ?_) (AllReadyH.cons rfl (fun K hK => ?_) AllReadyH.nil))
      · skip
        go_simp
        (go_at_call 54; refine (HA.out _ (HGW.out.trans hHeld.1)).mono ?_; rintro e wn2 ⟨x1, y1, rfl, hr, hg2⟩)
        (try go_wp2_with fail)
        refine hK.out _ _ (by first | with_reducible exact HS0.out | with_reducible exact HSg.out _ _ hHeld hg1 | with_reducible exact HSg.out _ _ hHeld hg2 | with_reducible exact HSg.out _ _ hHeld (Gr.refl _).alloc | exact HSg.out _ _ HP.out (Gr.refl _).alloc | exact HSs.out _ _ _ _ hHeld hbb) (fun hHeldN => ?_)
        clear hHeld hK K
        have hHeld := hHeldN
        clear hHeldN
        refine take_yes 6 12 (v := ?_) rfl rfl (by kernel_rfl) (by kernel_rfl) (by kernel_rfl) (fun _ _ _ h => h) (by rfl) ?_ hHeld ?_
        rotate_left
        · (intro w hSw; (try dsimp only at hSw); go_simp; try with_reducible rfl)
        simp only [Act.put, List.setIfInBounds_toArray, List.set_cons_zero, List.set_cons_succ]
        have HP := Lib.hid hHeld
        have hfin := HFin2.out (.slice x1 L.length y1) wn2 hHeld.1 (own_low hr (by have := hg1.size; simp at this; omega))
        have Hfin := Lib.hid hfin
        clear hfin
        refine wpAnyH_ready (rs := [7]) (by kernel_rfl) (by simp) (AllReadyH.cons rfl (fun K hK => ?_) AllReadyH.nil)
        go_simp
        refine hK.out _ _ (by first | with_reducible exact HS0.out | with_reducible exact HSg.out _ _ hHeld hg1 | with_reducible exact HSg.out _ _ hHeld hg2 | with_reducible exact HSg.out _ _ hHeld (Gr.refl _).alloc | exact HSg.out _ _ HP.out (Gr.refl _).alloc | exact HSs.out _ _ _ _ hHeld hbb) (fun hHeldN => ?_)
        clear hHeld hK K
        have hHeld := hHeldN
        clear hHeldN
        refine wpAnyH_ready (rs := [8]) (by kernel_rfl) (by simp) (AllReadyH.cons rfl (fun K hK => ?_) AllReadyH.nil)
        go_simp
        refine hK.out _ _ (by first | with_reducible exact HS0.out | with_reducible exact HSg.out _ _ hHeld hg1 | with_reducible exact HSg.out _ _ hHeld hg2 | with_reducible exact HSg.out _ _ hHeld (Gr.refl _).alloc | exact HSg.out _ _ HP.out (Gr.refl _).alloc | exact HSs.out _ _ _ _ hHeld hbb) (fun hHeldN => ?_)
        clear hHeld hK K
        have hHeld := hHeldN
        clear hHeldN
        refine wpAnyH_done (by kernel_rfl) ?_ _
        go_wp2_with fail
        go_meet
        exact ⟨_, _, rfl, Hfin.out⟩
      · skip
        have HP := Lib.hid hHeld
        have hbx := TwoAt.new wn1 (.string ⟨#[]⟩) (.slice none 0 0) 38 _ rfl
        have hbb : W.heap.size ≤ wn1.heap.size := (hHeld.1).size
        go_simp
        refine hK.out _ _ (by first | with_reducible exact HS0.out | with_reducible exact HSg.out _ _ hHeld hg1 | with_reducible exact HSg.out _ _ hHeld hg2 | with_reducible exact HSg.out _ _ hHeld (Gr.refl _).alloc | exact HSg.out _ _ HP.out (Gr.refl _).alloc | exact HSs.out _ _ _ _ hHeld hbb) (fun hHeldN => ?_)
        clear hHeld hK K
        have hHeld := hHeldN
        clear hHeldN
        refine wpAnyH_ready (rs := [5]) (by kernel_rfl) (by simp) (AllReadyH.cons rfl (fun K hK => ?_) AllReadyH.nil)
        go_simp
        (go_at_call 54; refine (HA.out _ (HGW.out.trans hHeld.1)).mono ?_; rintro e wn2 ⟨x1, y1, rfl, hr, hg2⟩)
        (try go_wp2_with fail)
        refine hK.out _ _ (by first | with_reducible exact HS0.out | with_reducible exact HSg.out _ _ hHeld hg1 | with_reducible exact HSg.out _ _ hHeld hg2 | with_reducible exact HSg.out _ _ hHeld (Gr.refl _).alloc | exact HSg.out _ _ HP.out (Gr.refl _).alloc | exact HSs.out _ _ _ _ hHeld hbb) (fun hHeldN => ?_)
        clear hHeld hK K
        have hHeld := hHeldN
        clear hHeldN
        have hbx2 := hbx.gr hg2
        refine take_yes 6 12 (v := ?_) rfl rfl (by kernel_rfl) (by kernel_rfl) (by kernel_rfl) (fun _ _ _ h => h) (by rfl) ?_ hHeld ?_
        rotate_left
        · (intro w hSw; (try dsimp only at hSw); go_simp; try with_reducible rfl)
        simp only [Act.put, List.setIfInBounds_toArray, List.set_cons_zero, List.set_cons_succ]
        have Hfin := Lib.hid (HFin.out wn1.heap.size (.slice x1 L.length y1) wn2 hHeld.1 (own_low hr (by have := hg1.size; simp at this ⊢; omega)) hbb (fun e => by have := (hr.lt _ e).1; simp at this; omega) ⟨_, _, hbx2⟩)
        obtain ⟨b0, b1, f0, f1, bl⟩ := hbx2
        refine wpAnyH_ready (rs := [8]) (by kernel_rfl) (by simp) (AllReadyH.cons rfl (fun K hK => ?_) AllReadyH.nil)
        go_simp
        refine hK.out _ _ (by first | with_reducible exact HS0.out | with_reducible exact HSg.out _ _ hHeld hg1 | with_reducible exact HSg.out _ _ hHeld hg2 | with_reducible exact HSg.out _ _ hHeld (Gr.refl _).alloc | exact HSg.out _ _ HP.out (Gr.refl _).alloc | exact HSs.out _ _ _ _ hHeld hbb) (fun hHeldN => ?_)
        clear hHeld hK K
        have hHeld := hHeldN
        clear hHeldN
        refine wpAnyH_done (by kernel_rfl) ?_ _
        go_wp2_with fail
        go_meet
        exact ⟨_, _, rfl, Hfin.out⟩
    · skip
      have HP := Lib.hid hHeld
      have hbx : TwoAt (W.drew.alloc (.cells #[.string ⟨#[]⟩, .slice none 0 0] 38)) (w.heap.size + 2) (.string ⟨#[]⟩) (.slice none 0 0) := TwoAt.new W.drew _ _ _ _ hWs.symm
      have hbb : W.heap.size ≤ w.heap.size + 2 := by omega
      go_simp
      refine hK.out _ _ (by first | with_reducible exact HS0.out | with_reducible exact HSg.out _ _ hHeld hg1 | with_reducible exact HSg.out _ _ hHeld hg2 | with_reducible exact HSg.out _ _ hHeld (Gr.refl _).alloc | exact HSg.out _ _ HP.out (Gr.refl _).alloc | exact HSs.out _ _ _ _ hHeld hbb) (fun hHeldN => ?_)
      clear hHeld hK K
      have hHeld := hHeldN
      clear hHeldN
      refine wpAnyH_ready (rs := [2]) (by kernel_rfl) (by simp) (AllReadyH.cons rfl (fun K hK => ?_) AllReadyH.nil)
      go_simp
      (go_at_call 53; refine (HCn.out _).mono ?_; rintro e wn1 ⟨rfl, hg1⟩)
      (try go_wp2_with fail)
      refine hK.out _ _ (by first | with_reducible exact HS0.out | with_reducible exact HSg.out _ _ hHeld hg1 | with_reducible exact HSg.out _ _ hHeld hg2 | with_reducible exact HSg.out _ _ hHeld (Gr.refl _).alloc | exact HSg.out _ _ HP.out (Gr.refl _).alloc | exact HSs.out _ _ _ _ hHeld hbb) (fun hHeldN => ?_)
      clear hHeld hK K
      have hHeld := hHeldN
      clear hHeldN
      refine wpAnyH_ready (rs := [5]) (by kernel_rfl) (by simp) (AllReadyH.cons rfl (fun K hK => ?_) AllReadyH.nil)
      go_simp
      (go_at_call 54; refine (HA.out _ (HGW.out.trans hHeld.1)).mono ?_; rintro e wn2 ⟨x1, y1, rfl, hr, hg2⟩)
      (try go_wp2_with fail)
      refine hK.out _ _ (by first | with_reducible exact HS0.out | with_reducible exact HSg.out _ _ hHeld hg1 | with_reducible exact HSg.out _ _ hHeld hg2 | with_reducible exact HSg.out _ _ hHeld (Gr.refl _).alloc | exact HSg.out _ _ HP.out (Gr.refl _).alloc | exact HSs.out _ _ _ _ hHeld hbb) (fun hHeldN => ?_)
      clear hHeld hK K
      have hHeld := hHeldN
      clear hHeldN
      have hbx2 := (hbx.gr hg1).gr hg2
      refine take_yes 6 12 (v := ?_) rfl rfl (by kernel_rfl) (by kernel_rfl) (by kernel_rfl) (fun _ _ _ h => h) (by rfl) ?_ hHeld ?_
      rotate_left
      · (intro w hSw; (try dsimp only at hSw); go_simp; try with_reducible rfl)
      simp only [Act.put, List.setIfInBounds_toArray, List.set_cons_zero, List.set_cons_succ]
      have Hfin := Lib.hid (HFin.out (w.heap.size + 2) (.slice x1 L.length y1) wn2 hHeld.1 (own_low hr (by have := hg1.size; simp at this ⊢; omega)) hbb (fun e => by have h1 := (hr.lt _ e).1; have h2 := hg1.size; simp [hWs] at h1 h2; omega) ⟨_, _, hbx2⟩)
      obtain ⟨b0, b1, f0, f1, bl⟩ := hbx2
      refine wpAnyH_ready (rs := [8]) (by kernel_rfl) (by simp) (AllReadyH.cons rfl (fun K hK => ?_) AllReadyH.nil)
      go_simp
      refine hK.out _ _ (by first | with_reducible exact HS0.out | with_reducible exact HSg.out _ _ hHeld hg1 | with_reducible exact HSg.out _ _ hHeld hg2 | with_reducible exact HSg.out _ _ hHeld (Gr.refl _).alloc | exact HSg.out _ _ HP.out (Gr.refl _).alloc | exact HSs.out _ _ _ _ hHeld hbb) (fun hHeldN => ?_)
      clear hHeld hK K
      have hHeld := hHeldN
      clear hHeldN
      refine wpAnyH_done (by kernel_rfl) ?_ _
      go_wp2_with fail
      go_meet
      exact ⟨_, _, rfl, Hfin.out⟩
  case rest =>
  obtain ⟨wp, rfl⟩ : ∃ x, x = wc := ⟨_, rfl⟩
  obtain ⟨b, v, rfl, hI⟩ := hcut
  obtain ⟨ad1, cap1, rfl, _⟩ := own_row hI.r
  have HI : Hid (CopyD w b nm (.slice ad1 L.length cap1) L wp) := hI
  have b1 := hI.bx.c1
  have bl := hI.bx.lt
  clear hI HR0 HGW hWs HA HS0 HSg HSs
  go_wp2
  clear b1 bl
  go_loopw [16] (fun s16 wr => ∃ k : Nat, s16 = .int .i64 k ∧ k ≤ L.length ∧ CopyD w b nm (.slice ad1 L.length cap1) L wr) (fun s16 _ => L.length - (intOf s16).toNat)
  case atStart => exact ⟨0, rfl, Nat.zero_le _, HI.out⟩
  case round =>
    clear HI
    obtain ⟨k, rfl, hk, hI⟩ := hrel
    by_cases hlt : k < L.length
    · obtain ⟨g, cap, hv, _, hgl, hc1, hc2⟩ := own_form hI.r (by omega)
      cases hv
      have HI : Hid (CopyD w b nm (.slice (some ⟨g, 0, none⟩) L.length cap1) L wr) := hI
      have hki : (k : Int) < (L.length : Int) := by omega
      have hu4 : (L.flatMap stpC)[k * 7 + 4]? = some (.string L[k].u) := by have := flat_get stpC_len L k hlt 4 (by omega); simpa [stpC] using this
      have hu1 : (L.flatMap stpC)[k * 7 + 1]? = some (.string L[k].a) := by have := flat_get stpC_len L k hlt 1 (by omega); simpa [stpC] using this
      have HC4 : Hid (∀ w', Calls Tryz.prog 53 #[.string L[k].u] w' fun e w2 => e = .returned (.string L[k].u) ∧ Gr w' w2) := fun w' => HCl.out _ w' (HZ.out _ (List.getElem_mem hlt)).2
      have HC1 : Hid (∀ w', Calls Tryz.prog 53 #[.string L[k].a] w' fun e w2 => e = .returned (.string L[k].a) ∧ Gr w' w2) := fun w' => HCl.out _ w' (HZ.out _ (List.getElem_mem hlt)).1
      generalize L[k].u = su at hu4 HC4
      generalize L[k].a = sa at hu1 HC1
      have HU1 := Lib.hid hu1
      have HU4 := Lib.hid hu4
      have b1 := hI.bx.c1
      have bl := hI.bx.lt
      obtain ⟨d4, e4⟩ := own_cell2 hI.r hu4
      clear hI hu1 hu4
      go_wp2_with fail
      refine (HC4.out _).mono ?_
      rintro e w1 ⟨rfl, hg1⟩
      have hI1 := HI.out.gr hg1
      obtain ⟨d4, e4⟩ := own_cell2 hI1.r HU4.out
      have hI2 := hI1.set _ _ HU4.out
      obtain ⟨d1, e1⟩ := own_cell2 hI2.r HU1.out
      have HI2 := Lib.hid hI2
      clear hI1 hI2
      go_wp2_with fail
      refine (HC1.out _).mono ?_
      rintro e w2 ⟨rfl, hg2⟩
      have hI3 := HI2.out.gr hg2
      obtain ⟨d1, e1⟩ := own_cell2 hI3.r HU1.out
      have HI4 := Lib.hid (hI3.set _ _ HU1.out)
      clear hI3
      go_wp2
      go_roundw
      case rel => exact ⟨k + 1, by go_num, by omega, HI4.out⟩
      case measure => simp [intOf]; omega
    · have hge : ¬ ((k : Int) < (L.length : Int)) := by omega
      obtain ⟨b0, b1, f0, f1, bl⟩ := hI.bx
      obtain ⟨r0, r1, q0, q1, rl⟩ := hI.rs
      have HI : Hid (CopyD w b nm (.slice ad1 L.length cap1) L wr) := hI
      clear hI
      go_wp2
      refine bodyPost_ret (v := .agg #[.string nm, .slice ad1 L.length cap1]) (by simp [results, Tryz.results28, go_sem, *]) rfl ⟨_, _, rfl, ?_, (HI.out.g.set _ (by simp) _).set _ (by simp) _⟩
      refine own_far (own_far (own_low HI.out.r (by omega)) _ _ ?_) _ _ ?_
      all_goals (intro h; have := (HI.out.r.lt _ h).1; simp at this)
end Go.Proofs.YtfobfpigbfepoaaGreatDoor
namespace Go.Proofs.YtfobfpigbfepoaaGreatDoor
open Go.RowKit
open Df (Stp)
theorem name_le2 {s : ByteArray} (h : Act.nameB s = true) : s.size ≤ 16 := (Act.name_pos h).2
theorem ok_small {d : Bk.Dn} (h : Bk.okB d = true) : d.nm.size ≤ 1000 ∧ d.L.length ≤ 1000 ∧ ∀ s ∈ d.L, s.a.size ≤ 1000 ∧ s.u.size ≤ 1000 := by
  obtain ⟨h1, _, h3, h4⟩ := (Df.def_iff d.nm d.L).1 h
  have := name_le2 h1
  refine ⟨by omega, by omega, fun s hs => ?_⟩
  have h := h4 s hs
  unfold Df.stpB at h
  simp only [Bool.or_eq_true] at h
  rcases h with h | h
  · obtain ⟨p1, ab, _⟩ := (Df.own_iff s).1 h
    obtain ⟨_, nb, _⟩ := (Act.act_iff s.k s.a s.n).1 ab
    have := name_le2 nb
    have hu : s.u.size = 0 := by rw [p1]; rfl
    omega
  · obtain ⟨n1, _, q2, _⟩ := (Df.ask_iff s).1 h
    have := name_le2 n1
    have ha : s.a.size = 0 := by rw [q2]; rfl
    omega
def FnR (w : World) (d : Bk.Dn) (b : Bool) (e : Ending) (w' : World) : Prop :=
  ∃ a c, e = .returned (.tuple #[.agg #[.string d.nm, .slice a d.L.length c], .bool b]) ∧ StpsAt w' a d.L ∧ Gr w w'
set_option maxHeartbeats 4000000 in
set_option maxRecDepth 100000 in
theorem find_any (D : List Dm) (s : ByteArray) (ad : Option Addr) (cap : Nat) (w : World) (hB : BkAt w ad D) (hn : D.length ≤ 9223372036854775807) :
    Calls Tryz.prog 11 #[.slice ad D.length cap, .string s] w fun e w' => FnR w (Bk.fnd (dns D) s) (Bk.fndB (dns D) s) e w' := by
  have HM : Hid (∀ w', Gr w w' → Calls Tryz.prog 13 #[.slice ad D.length cap] w' fun e w2 => e = .returned (.int .i64 (Bk.mayE (dns D))) ∧ Gr w' w2) := fun w' g => may_any D ad cap w' (hB.gr g) hn
  have HR0 := Lib.hid (TwoAt.new w (.string ⟨#[]⟩) (.slice none 0 0) 38 _ rfl)
  cases hm : Bk.mayB (dns D) with
  | false =>
    have e1 : Bk.fnd (dns D) s = ⟨⟨#[]⟩, []⟩ := by unfold Bk.fnd; rw [hm]; simp
    have e2 : Bk.fndB (dns D) s = false := by unfold Bk.fndB; rw [hm]; rfl
    rw [e1, e2]
    rw [Bk.may_not hm] at HM
    clear hm e1 e2 hB
    go_enter Tryz.func11, Tryz.ntmps11
    go_wp2_with fail
    refine (HM.out _ (by repeat (first | exact Gr.refl _ | refine Gr.alloc ?_ | refine Gr.drew ?_ | refine Gr.trans ?_ (by assumption)))).mono ?_
    rintro e w1 ⟨rfl, hg1⟩
    obtain ⟨c0, c1, f0, f1, lt⟩ := HR0.out.gr hg1
    go_wp2
    refine bodyPost_ret (v := .tuple #[.agg #[.string ⟨#[]⟩, .slice none 0 0], .bool false]) (by simp [results, Tryz.results11, go_sem, *]) rfl ?_
    exact ⟨none, 0, rfl, RowAt.nil, (by (repeat' (first | with_reducible exact Gr.refl _ | with_reducible refine Gr.set ?_ _ ?_ _ | with_reducible refine Gr.alloc ?_ | with_reducible refine Gr.drew ?_ | with_reducible refine Gr.trans ?_ (by assumption))) <;> (first | (simp; done) | (simp; omega) | omega))⟩
  | true =>
    obtain ⟨m1, m2, m3⟩ := (Bk.may_iff _).1 hm
    rw [dns_len] at m1
    rw [← nmD_eq] at m3
    rw [Bk.may_ok hm] at HM
    have HP : Hid (∀ w', Gr w w' → Calls Tryz.prog 27 #[.slice ad D.length cap, .string s] w' fun e w2 => e = .returned (.tuple #[.int .i64 (Bk.pos (nmD D) s : Nat), .bool (Bk.hasB (nmD D) s)]) ∧ Gr w' w2) := fun w' g => place_any D s ad cap w' (hB.gr g).row m3 (by omega)
    cases hh : Bk.hasB (nmD D) s with
    | false =>
      have hh2 := hh
      rw [nmD_eq] at hh2
      have e1 : Bk.fnd (dns D) s = ⟨⟨#[]⟩, []⟩ := by unfold Bk.fnd; rw [hh2]; simp
      have e2 : Bk.fndB (dns D) s = false := by unfold Bk.fndB; rw [hm, hh2]; rfl
      rw [e1, e2]
      rw [hh] at HP
      clear hm e1 e2 hB hh hh2 m1 m2 m3
      generalize Bk.pos (nmD D) s = p at HP
      go_enter Tryz.func11, Tryz.ntmps11
      go_wp2_with fail
      refine (HM.out _ (by repeat (first | exact Gr.refl _ | refine Gr.alloc ?_ | refine Gr.drew ?_ | refine Gr.trans ?_ (by assumption)))).mono ?_
      rintro e w1 ⟨rfl, hg1⟩
      go_wp2_with fail
      refine (HP.out _ (by repeat (first | exact Gr.refl _ | refine Gr.alloc ?_ | refine Gr.drew ?_ | refine Gr.trans ?_ (by assumption)))).mono ?_
      rintro e w2 ⟨rfl, hg2⟩
      obtain ⟨c0, c1, f0, f1, lt⟩ := (HR0.out.gr hg1).gr hg2
      go_wp2
      refine bodyPost_ret (v := .tuple #[.agg #[.string ⟨#[]⟩, .slice none 0 0], .bool false]) (by simp [results, Tryz.results11, go_sem, *]) rfl ?_
      exact ⟨none, 0, rfl, RowAt.nil, (by (repeat' (first | with_reducible exact Gr.refl _ | with_reducible refine Gr.set ?_ _ ?_ _ | with_reducible refine Gr.alloc ?_ | with_reducible refine Gr.drew ?_ | with_reducible refine Gr.trans ?_ (by assumption))) <;> (first | (simp; done) | (simp; omega) | omega))⟩
    | true =>
      obtain ⟨hp, hq⟩ := Bk.pos_mem m3 ((Bk.has_iff _ _).1 hh)
      rw [nmD_len] at hp
      rw [nmD_get D _ hp] at hq
      have e0 := Bk.fnd_at hm (Bk.pos (nmD D) s) (by rw [dns_len]; exact hp)
      rw [dns_get D _ hp] at e0
      have e3 : D[Bk.pos (nmD D) s].dn.nm = s := hq
      rw [e3] at e0
      rw [e0.1, e0.2]
      rw [hh] at HP
      have hok := m2 D[Bk.pos (nmD D) s].dn (List.mem_map.2 ⟨_, List.getElem_mem hp, rfl⟩)
      obtain ⟨z1, z2, z3⟩ := ok_small hok
      have HC : Hid (∀ w', Gr w w' → Calls Tryz.prog 28 #[.agg #[.string D[Bk.pos (nmD D) s].nm, .slice D[Bk.pos (nmD D) s].ad D[Bk.pos (nmD D) s].L.length D[Bk.pos (nmD D) s].cap]] w' fun e w2 => ∃ a c, e = .returned (.agg #[.string D[Bk.pos (nmD D) s].nm, .slice a D[Bk.pos (nmD D) s].L.length c]) ∧ w2.ownsRow w'.heap.size 78 7 (.slice a D[Bk.pos (nmD D) s].L.length c) D[Bk.pos (nmD D) s].L.length (D[Bk.pos (nmD D) s].L.flatMap stpC) ∧ Gr w' w2) := fun w' g => copied_any D[Bk.pos (nmD D) s] w' ((hB.gr g).st _ (List.getElem_mem hp)) z2 z1 z3
      obtain ⟨b, off, rfl, hb, d0, d1⟩ := DmsAt.at hB.row _ hp
      have hpi : ((Bk.pos (nmD D) s : Nat) : Int) < (D.length : Int) := by omega
      clear hm hB hh m1 m2 m3 e0 e3 hok z1 z2 z3 hq
      generalize Bk.pos (nmD D) s = p at *
      generalize D[p] = x at *
      obtain ⟨xn, xa, xc, xl⟩ := x
      dsimp only [Dm.dn] at *
      have D0 := Lib.hid d0
      have D1 := Lib.hid d1
      clear d0 d1
      go_enter Tryz.func11, Tryz.ntmps11
      go_wp2_with fail
      refine (HM.out _ (by repeat (first | exact Gr.refl _ | refine Gr.alloc ?_ | refine Gr.drew ?_ | refine Gr.trans ?_ (by assumption)))).mono ?_
      rintro e w1 ⟨rfl, hg1⟩
      go_wp2_with fail
      refine (HP.out _ (by repeat (first | exact Gr.refl _ | refine Gr.alloc ?_ | refine Gr.drew ?_ | refine Gr.trans ?_ (by assumption)))).mono ?_
      rintro e w2 ⟨rfl, hg2⟩
      have gw : Gr w w2 := (by repeat (first | exact Gr.refl _ | refine Gr.alloc ?_ | refine Gr.drew ?_ | refine Gr.trans ?_ (by assumption)))
      have d0 := gw.keep D0.out
      have d1 := gw.keep D1.out
      have hbw : b < w2.heap.size := Nat.lt_of_lt_of_le hb gw.size
      go_wp2_with fail
      refine (HC.out _ (by repeat (first | exact Gr.refl _ | refine Gr.alloc ?_ | refine Gr.drew ?_ | refine Gr.trans ?_ (by assumption)))).mono ?_
      rintro e w3 ⟨a, c, rfl, hr, hg3⟩
      obtain ⟨c0, c1, f0, f1, lt⟩ := ((HR0.out.gr hg1).gr hg2).gr hg3
      have HRR := Lib.hid (own_steps hr).1
      have hgf : Gr w w3 := (by repeat (first | exact Gr.refl _ | refine Gr.alloc ?_ | refine Gr.drew ?_ | refine Gr.trans ?_ (by assumption)))
      go_wp2
      refine bodyPost_ret (v := .tuple #[.agg #[.string xn, .slice a xl.length c], .bool true]) (by simp [results, Tryz.results11, go_sem, *]) rfl ?_
      have hfar : ∀ x, a = some x → w.heap.size ≠ x.block := fun x e => by have := (own_steps hr).2 x e; have := ((HR0.out.gr hg1).gr hg2).lt; omega
      exact ⟨a, c, rfl, (HRR.out.setFar _ _ (fun x e => by simpa using hfar x e)).setFar _ _ (fun x e => by simpa using hfar x e), (hgf.set _ (by simp) _).set _ (by simp) _⟩
def PuR (w : World) (base : Nat) (v : Value) (D : List Bk.Dn) (d : Bk.Dn) (e : Ending) (w' : World) : Prop :=
  (Bk.putE D d ≠ 0 ∧ e = .returned (.tuple #[.slice none 0 0, .int .i64 (Bk.putE D d)]) ∧ Gr w w') ∨
  (Bk.putE D d = 0 ∧ ∃ a c D', e = .returned (.tuple #[.slice a D'.length c, .int .i64 0]) ∧ Book w' base (.slice a D'.length c) D' ∧ dns D' = Bk.ins D d ∧ w.grownBy w' v.ownBlock)
set_option maxHeartbeats 4000000 in
set_option maxRecDepth 100000 in
theorem put_any (D : List Dm) (x : Dm) (ad : Option Addr) (cap base : Nat) (w : World) (hB : Book w base (.slice ad D.length cap) D) (hm : Bk.mayB (dns D) = true) (hS : StpsAt w x.ad x.L) (hx : inD x) (hb : base ≤ w.heap.size) :
    Calls Tryz.prog 22 #[.slice ad D.length cap, .agg #[.string x.nm, .slice x.ad x.L.length x.cap]] w fun e w' => PuR w base (.slice ad D.length cap) (dns D) x.dn e w' := by
  obtain ⟨m1, m2, m3⟩ := (Bk.may_iff _).1 hm
  rw [dns_len] at m1
  rw [← nmD_eq] at m3
  have HCh : Hid (∀ w', Gr w w' → Calls Tryz.prog 29 #[.agg #[.string x.nm, .slice x.ad x.L.length x.cap]] w' fun e w2 => e = .returned (.int .i64 (Df.chE x.nm x.L)) ∧ Gr w' w2) := fun w' g => dCheck_any x.nm x.L x.ad x.cap w' (hS.gr g) hx.1 hx.2.1 hx.2.2
  have HX0 := Lib.hid (TwoAt.new w (.string x.nm) (.slice x.ad x.L.length x.cap) 38 _ rfl)
  cases hok : Bk.okB x.dn with
  | false =>
    have HE : Hid (Bk.putE (dns D) x.dn = 90) := by show _ = _; unfold Bk.putE; rw [hok]; rfl
    rw [show Df.chE x.nm x.L = 90 from Df.ch_no hok] at HCh
    clear hok hB hm hS hx m1 m2 m3
    obtain ⟨xn, xa, xc, xl⟩ := x
    dsimp only at *
    go_enter Tryz.func22, Tryz.ntmps22
    go_wp2_with fail
    refine (HCh.out _ (by repeat (first | exact Gr.refl _ | refine Gr.alloc ?_ | refine Gr.drew ?_ | refine Gr.trans ?_ (by assumption)))).mono ?_
    rintro e w1 ⟨rfl, hg1⟩
    go_wp2
    go_ret2
    refine Or.inl ⟨by rw [HE.out]; decide, by (rw [HE.out]) <;> rfl, (by (repeat' (first | with_reducible exact Gr.refl _ | with_reducible refine Gr.set ?_ _ ?_ _ | with_reducible refine Gr.alloc ?_ | with_reducible refine Gr.drew ?_ | with_reducible refine Gr.trans ?_ (by assumption))) <;> (first | (simp; done) | (simp; omega) | omega))⟩
  | true =>
    rw [show Df.chE x.nm x.L = 0 from Df.ch_yes hok] at HCh
    obtain ⟨_, _, _, _, _, hBk, _⟩ := hB.at
    have hBk : BkAt w ad D := by
      obtain ⟨ad', cap', e, _, _, h, _⟩ := hB.at
      cases e; exact h
    have HP : Hid (∀ w', Gr w w' → Calls Tryz.prog 27 #[.slice ad D.length cap, .string x.nm] w' fun e w2 => e = .returned (.tuple #[.int .i64 (Bk.pos (nmD D) x.nm : Nat), .bool (Bk.hasB (nmD D) x.nm)]) ∧ Gr w' w2) := fun w' g => place_any D x.nm ad cap w' (hBk.gr g).row m3 (by omega)
    cases hh : Bk.hasB (nmD D) x.nm with
    | true =>
      have HE : Hid (Bk.putE (dns D) x.dn = 71) := by
        show _ = _
        rw [nmD_eq] at hh
        unfold Bk.putE; rw [hok, show Bk.hasB (Bk.nms (dns D)) x.dn.nm = true from hh]; rfl
      rw [hh] at HP
      clear hok hB hm hS hx m1 m2 m3 hBk hh
      generalize Bk.pos (nmD D) x.nm = p at HP
      obtain ⟨xn, xa, xc, xl⟩ := x
      dsimp only at *
      go_enter Tryz.func22, Tryz.ntmps22
      go_wp2_with fail
      refine (HCh.out _ (by repeat (first | exact Gr.refl _ | refine Gr.alloc ?_ | refine Gr.drew ?_ | refine Gr.trans ?_ (by assumption)))).mono ?_
      rintro e w1 ⟨rfl, hg1⟩
      obtain ⟨c0, c1, f0, f1, lt⟩ := HX0.out.gr hg1
      go_wp2_with fail
      refine (HP.out _ (by repeat (first | exact Gr.refl _ | refine Gr.alloc ?_ | refine Gr.drew ?_ | refine Gr.trans ?_ (by assumption)))).mono ?_
      rintro e w2 ⟨rfl, hg2⟩
      go_wp2
      go_ret2
      refine Or.inl ⟨by rw [HE.out]; decide, by (rw [HE.out]) <;> rfl, (by (repeat' (first | with_reducible exact Gr.refl _ | with_reducible refine Gr.set ?_ _ ?_ _ | with_reducible refine Gr.alloc ?_ | with_reducible refine Gr.drew ?_ | with_reducible refine Gr.trans ?_ (by assumption))) <;> (first | (simp; done) | (simp; omega) | omega))⟩
    | false =>
      rw [hh] at HP
      have hh2 : Bk.hasB (Bk.nms (dns D)) x.dn.nm = false := by rw [← nmD_eq]; exact hh
      by_cases h8 : 8 ≤ D.length
      · have HE : Hid (Bk.putE (dns D) x.dn = 3) := by
          show _ = _
          unfold Bk.putE; rw [hok, hh2, dns_len, if_pos h8]; rfl
        have h8i : (8 : Int) ≤ (D.length : Int) := by omega
        clear hok hB hm hS hx m1 m2 m3 hBk hh hh2
        generalize Bk.pos (nmD D) x.nm = p at HP
        obtain ⟨xn, xa, xc, xl⟩ := x
        dsimp only at *
        go_enter Tryz.func22, Tryz.ntmps22
        go_wp2_with fail
        refine (HCh.out _ (by repeat (first | exact Gr.refl _ | refine Gr.alloc ?_ | refine Gr.drew ?_ | refine Gr.trans ?_ (by assumption)))).mono ?_
        rintro e w1 ⟨rfl, hg1⟩
        obtain ⟨c0, c1, f0, f1, lt⟩ := HX0.out.gr hg1
        go_wp2_with fail
        refine (HP.out _ (by repeat (first | exact Gr.refl _ | refine Gr.alloc ?_ | refine Gr.drew ?_ | refine Gr.trans ?_ (by assumption)))).mono ?_
        rintro e w2 ⟨rfl, hg2⟩
        go_wp2
        go_ret2
        refine Or.inl ⟨by rw [HE.out]; decide, by (rw [HE.out]) <;> rfl, (by (repeat' (first | with_reducible exact Gr.refl _ | with_reducible refine Gr.set ?_ _ ?_ _ | with_reducible refine Gr.alloc ?_ | with_reducible refine Gr.drew ?_ | with_reducible refine Gr.trans ?_ (by assumption))) <;> (first | (simp; done) | (simp; omega) | omega))⟩
      · have HE : Hid (Bk.putE (dns D) x.dn = 0) := by
          show _ = _
          unfold Bk.putE; rw [hok, hh2, dns_len, if_neg h8]; rfl
        have h8i : ¬ (8 : Int) ≤ (D.length : Int) := by omega
        obtain ⟨z1, z2, z3⟩ := ok_small hok
        have HC : Hid (∀ w', Gr w w' → Calls Tryz.prog 28 #[.agg #[.string x.nm, .slice x.ad x.L.length x.cap]] w' fun e w2 => ∃ a c, e = .returned (.agg #[.string x.nm, .slice a x.L.length c]) ∧ w2.ownsRow w'.heap.size 78 7 (.slice a x.L.length c) x.L.length (x.L.flatMap stpC) ∧ Gr w' w2) := fun w' g => copied_any x w' (hS.gr g) z2 z1 z3
        have hpl : Bk.pos (nmD D) x.nm ≤ D.length := by have := Bk.pos_le (nmD D) x.nm; rw [nmD_len] at this; exact this
        have HI : Hid (∀ (y : Dm) (vb : Nat) w', w'.ownsRow base 38 2 (.slice ad D.length cap) D.length (D.flatMap dmC) → base ≤ w'.heap.size → w'.heap[vb]? = some (.cells (dmC y).toArray 38 (0, 0)) → (Value.slice ad D.length cap).ownBlock ≠ some vb → Calls Tryz.prog 39 #[.slice ad D.length cap, .int .i64 (Bk.pos (nmD D) x.nm : Nat), .slice (some ⟨vb, 0, none⟩) 1 1] w' fun e w2 => ∃ v', e = .returned v' ∧ w2.ownsRow base 38 2 v' (D.length + 1) ((D.take (Bk.pos (nmD D) x.nm) ++ y :: D.drop (Bk.pos (nmD D) x.nm)).flatMap dmC) ∧ w'.grownBy w2 (Value.slice ad D.length cap).ownBlock) := fun y vb w' h1 h2 h3 h4 => insD_any D y _ _ vb base w' hpl (by omega) h2 h1 h3 h4
        have HBk := Lib.hid hB
        have HXi : Hid (inD x) := hx
        have HPQ : Hid (∀ (y : Dm), y.dn = x.dn → dns (D.take (Bk.pos (nmD D) x.nm) ++ y :: D.drop (Bk.pos (nmD D) x.nm)) = Bk.ins (dns D) x.dn ∧ (D.take (Bk.pos (nmD D) x.nm) ++ y :: D.drop (Bk.pos (nmD D) x.nm)).length = D.length + 1) := by
          intro y hy
          constructor
          · unfold Bk.ins
            rw [← nmD_eq]
            unfold dns
            rw [List.map_append, List.map_cons, List.map_take, List.map_drop, hy]; rfl
          · rw [List.length_append, List.length_cons, List.length_take, List.length_drop]; omega
        clear hok hB hm hS hx m1 m2 m3 hBk hh hh2 h8 z1 z2 z3 hpl
        generalize Bk.pos (nmD D) x.nm = p at *
        obtain ⟨xn, xa, xc, xl⟩ := x
        dsimp only at *
        go_enter Tryz.func22, Tryz.ntmps22
        go_wp2_with fail
        refine (HCh.out _ (by repeat (first | exact Gr.refl _ | refine Gr.alloc ?_ | refine Gr.drew ?_ | refine Gr.trans ?_ (by assumption)))).mono ?_
        rintro e w1 ⟨rfl, hg1⟩
        obtain ⟨c0, c1, f0, f1, lt⟩ := HX0.out.gr hg1
        go_wp2_with fail
        refine (HP.out _ (by repeat (first | exact Gr.refl _ | refine Gr.alloc ?_ | refine Gr.drew ?_ | refine Gr.trans ?_ (by assumption)))).mono ?_
        rintro e w2 ⟨rfl, hg2⟩
        obtain ⟨c0, c1, f0, f1, lt⟩ := (HX0.out.gr hg1).gr hg2
        go_wp2_with fail
        refine (HC.out _ (by repeat (first | exact Gr.refl _ | refine Gr.alloc ?_ | refine Gr.drew ?_ | refine Gr.trans ?_ (by assumption)))).mono ?_
        rintro e w3 ⟨a, c, rfl, hr, hg3⟩
        have gw2 : Gr w w2 := (by repeat (first | exact Gr.refl _ | refine Gr.alloc ?_ | refine Gr.drew ?_ | refine Gr.trans ?_ (by assumption)))
        have gw3 : Gr w w3 := (by repeat (first | exact Gr.refl _ | refine Gr.alloc ?_ | refine Gr.drew ?_ | refine Gr.trans ?_ (by assumption)))
        have HB3 := Lib.hid (HBk.out.gr gw3.alloc (w' := w3.alloc (.cells #[.string xn, .slice a xl.length c] 38)))
        have HR3 := Lib.hid (own_gr2 (own_low hr (Nat.le_trans hb gw2.size)) ((Gr.refl w3).alloc (o := .cells #[.string xn, .slice a xl.length c] 38)))
        have HG3 := Lib.hid gw3
        clear hr
        go_wp2_with fail
        refine (HI.out ⟨xn, a, c, xl⟩ w3.heap.size _ HB3.out.own (by have := gw3.size; simp; omega) (heap_alloc_new w3 _) (fun e => by have := (HBk.out.own.lt _ e).2; have := gw3.size; omega)).mono ?_
        rintro e w4 ⟨v', rfl, hown, hgrow⟩
        obtain ⟨q1, q2⟩ := HPQ.out ⟨xn, a, c, xl⟩ rfl
        generalize hD' : D.take p ++ (⟨xn, a, c, xl⟩ : Dm) :: D.drop p = D' at *
        have hmem : ∀ d ∈ D', d = ⟨xn, a, c, xl⟩ ∨ d ∈ D := by
          intro d hd
          rw [← hD'] at hd
          rcases List.mem_append.1 hd with h | h
          · exact Or.inr (List.mem_of_mem_take h)
          · rcases List.mem_cons.1 h with h | h
            · exact Or.inl h
            · exact Or.inr (List.mem_of_mem_drop h)
        have hown' : w4.ownsRow base 38 2 v' D'.length (D'.flatMap dmC) := by rw [q2]; exact hown
        have hne : (Value.slice a xl.length c).ownBlock = none ∨ (Value.slice a xl.length c).ownBlock ≠ (Value.slice ad D.length cap).ownBlock := by
          cases e : (Value.slice ad D.length cap).ownBlock with
          | none => exact own_or _
          | some b => exact Or.inr (own_apart HB3.out.own HR3.out (by decide) e)
        have hbk : Book w4 base v' D' := by
          refine ⟨hown', fun d hd => ?_, fun d hd => ?_⟩
          · rcases hmem d hd with rfl | hd
            · exact HR3.out.kept hgrow hne
            · exact HB3.out.turn hgrow d hd
          · rcases hmem d hd with rfl | hd
            · exact HXi.out
            · exact HBk.out.rng d hd
        obtain ⟨a', c', e', _⟩ := hbk.at
        subst e'
        have HBF := Lib.hid hbk
        have HGF : Hid (w.grownBy w4 (Value.slice ad D.length cap).ownBlock) := grownBy_trans (grownBy_new gw3.alloc _) hgrow
        clear hgrow hown hown' hbk hne hmem
        go_wp2
        go_ret2
        exact Or.inr ⟨HE.out, a', c', D', by rw [q2]; rfl, HBF.out, q1, HGF.out⟩
end Go.Proofs.YtfobfpigbfepoaaGreatDoor
