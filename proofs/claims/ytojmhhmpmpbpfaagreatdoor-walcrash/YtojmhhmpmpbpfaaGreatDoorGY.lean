/- Parts of these proofs, laid together. -/
import Derived.Test.YtojmhhmpmpbpfaaGreatDoorGX
import Derived.WalkMore
import Derived.Deep.DeepCutAuto
namespace Go.Proofs.YtojmhhmpmpbpfaaGreatDoor
open Go.RowKit
open Dk (Fl zf)

set_option maxHeartbeats 4000000 in
set_option maxRecDepth 100000 in
theorem look_wrong (L : List Fl) (ad : Option Addr) (cap : Nat) (w : World) (hT : Tab w) (hL : FsAt w ad cap L) (hr : Sg.rise L = true) (p : Nat) (hp : p < L.length) (hw : Sg.lw L L.length = ((p : Int), 0)) (B : List (List UInt8)) (gd : Nat) (er : Nat) (he0 : er ≠ 0) (he1 : er ≠ 10) (hc : Sg.cut L[p] = (B, gd, er)) :
    Calls Tryz.prog 30 #[.slice ad L.length cap] w fun e w' => LkR (Sg.bad 170) w e w' := by
  have HR : Hid (∀ w', Gr w w' → Calls Tryz.prog 54 #[.slice ad L.length cap] w' fun e w2 => e = .returned (.bool true) ∧ Gr w' w2) := fun w' g => by
    have := rise_any L ad cap w' (hL.gr g)
    rw [hr] at this
    exact this
  have HW : Hid (∀ w', Gr w w' → Calls Tryz.prog 55 #[.slice ad L.length cap, .func (.func 56) #[] #[]] w' fun e w2 => e = .returned (.tuple #[.int .i64 (p : Int), .int .i64 0]) ∧ Gr w' w2) := fun w' g => by
    have := lastWhole_any L ad cap w' (hT.gr g) (hL.gr g)
    rw [hw] at this
    exact this
  have HC : Hid (∀ w', Gr w w' → Calls Tryz.prog 59 #[.string L[p].d, .int .i64 3] w' fun e w2 => ∃ ab cb, e = .returned (.tuple #[.slice ab B.length cb, .int .i64 (gd : Int), .int .i64 ((er : Int))]) ∧ StrsAt w2 ab (B.map mkT) ∧ (∀ p, ab = some p → w'.heap.size ≤ p.block) ∧ Gr w' w2) := fun w' g => by
    have := cut_fresh L[p].d 3 w' (hT.gr g) (by have := (hL.rng _ (List.getElem_mem hp)).2.2; omega)
    unfold Sg.cut at hc
    rw [hc] at this
    exact this
  have HL := Lib.hid hL.row
  have hpl : (p : Int) < (L.length : Int) := by omega
  have hpn : ((p : Int) == -1) = false := by rw [beq_eq_false_iff_ne]; omega
  have hl3 := hL.len
  clear hL hT
  obtain ⟨b, off, rfl, hb, c0, c1, _⟩ := fl_at HL.out p hp
  go_enter Tryz.func30, Tryz.ntmps30
  go_wp2_with fail
  refine (HR.out _ (by repeat (first | exact Gr.refl _ | refine Gr.alloc ?_ | refine Gr.drew ?_ | refine Gr.trans ?_ (by assumption)))).mono ?_
  rintro e w1 ⟨rfl, hg1⟩
  go_wp2_with fail
  refine (HW.out _ (by repeat (first | exact Gr.refl _ | refine Gr.alloc ?_ | refine Gr.drew ?_ | refine Gr.trans ?_ (by assumption)))).mono ?_
  rintro e w2 ⟨rfl, hg2⟩
  have G2 := Lib.hid (((Gr.refl w).alloc.trans hg1).trans hg2 : Gr w w2)
  have B2 := ((Bx4.new w (.int .i64 0) (.int .i64 0) (.slice none 0 0) (.slice none 0 0) 71 _ rfl).gr hg1).gr hg2
  have c0 := G2.out.keep c0
  have c1 := G2.out.keep c1
  clear hg1 hg2
  generalize hf : L[p] = f at *
  obtain ⟨fn, fd, fy⟩ := f
  simp only at *
  go_wp2_with fail
  refine (HC.out _ G2.out).mono ?_
  rintro e w3 ⟨ab, cb, rfl, hst, hfb, hg3⟩
  have HFb : Hid (∀ p, ab = some p → w.heap.size ≤ p.block) := fun p e => Nat.le_trans G2.out.size (hfb p e)
  clear hfb
  have G3 := Lib.hid (G2.out.trans hg3)
  have B3 := B2.gr hg3
  have c0 := hg3.keep c0
  have HS := Lib.hid hst
  clear hg3 hst B2
  have hne0 : ((er : Int) != 0) = true := by rw [bne_iff_ne]; omega
  have hne1 : ((er : Int) != 10) = true := by rw [bne_iff_ne]; omega
  obtain ⟨d0, d1, d2, d3, f0, f1, f2, f3, hlt⟩ := B3
  go_wp2
  exact bodyPost_ret (v := .tuple #[.agg #[.int .i64 0, .int .i64 0, .slice none 0 0, .slice none 0 0], .int .i64 170]) (by simp [results, Tryz.results30, go_sem, d0, d1, d2, d3]) rfl
    ⟨none, 0, none, 0, rfl, fun j h => absurd h (by simp [Sg.bad]), fun j h => absurd h (by simp [Sg.bad]), gr_fill G3.out (Nat.le_refl _) _ _ _ _, fun _ e => (by cases e), fun _ e => (by cases e)⟩

set_option maxHeartbeats 4000000 in
set_option maxRecDepth 100000 in
theorem look_all (L : List Fl) (ad : Option Addr) (cap : Nat) (w : World) (hT : Tab w) (hL : FsAt w ad cap L) (hr : Sg.rise L = true) (p : Nat) (hp : p < L.length) (hw : Sg.lw L L.length = ((p : Int), 0)) (B : List (List UInt8)) (gd : Nat) (hc : Sg.cut L[p] = (B, gd, 0)) :
    Calls Tryz.prog 30 #[.slice ad L.length cap] w fun e w' => LkR ⟨L[p].n, gd, B, Sg.drops L p, 0⟩ w e w' := by
  have HR : Hid (∀ w', Gr w w' → Calls Tryz.prog 54 #[.slice ad L.length cap] w' fun e w2 => e = .returned (.bool true) ∧ Gr w' w2) := fun w' g => by
    have := rise_any L ad cap w' (hL.gr g)
    rw [hr] at this
    exact this
  have HW : Hid (∀ w', Gr w w' → Calls Tryz.prog 55 #[.slice ad L.length cap, .func (.func 56) #[] #[]] w' fun e w2 => e = .returned (.tuple #[.int .i64 (p : Int), .int .i64 0]) ∧ Gr w' w2) := fun w' g => by
    have := lastWhole_any L ad cap w' (hT.gr g) (hL.gr g)
    rw [hw] at this
    exact this
  have HC : Hid (∀ w', Gr w w' → Calls Tryz.prog 59 #[.string L[p].d, .int .i64 3] w' fun e w2 => ∃ ab cb, e = .returned (.tuple #[.slice ab B.length cb, .int .i64 (gd : Int), .int .i64 (0)]) ∧ StrsAt w2 ab (B.map mkT) ∧ (∀ p, ab = some p → w'.heap.size ≤ p.block) ∧ Gr w' w2) := fun w' g => by
    have := cut_fresh L[p].d 3 w' (hT.gr g) (by have := (hL.rng _ (List.getElem_mem hp)).2.2; omega)
    unfold Sg.cut at hc
    rw [hc] at this
    exact this
  have hlen := hL.len
  have hcap := hL.cap
  have HN : Hid (∀ (w' : World) (b0 : Nat), Gr w w' → w'.cell? ⟨b0, 0, none⟩ = some (.slice ad p cap) → w'.cell? ⟨b0, 1, none⟩ = some (.slice (highAd ad cap (p + 1)) (L.length - (p + 1)) (cap - (p + 1))) → Calls Tryz.prog 58 #[.slice (some ⟨b0, 0, none⟩) 2 2] w' fun e w2 => ∃ ad2 cap2, e = .returned (.slice ad2 (Sg.drops L p).length cap2) ∧ IntsAt w2 ad2 (Sg.drops L p) ∧ (∀ q, ad2 = some q → w'.heap.size ≤ q.block) ∧ Gr w' w2) := fun w' b0 g h0 h1 => by
    have := numbers_any [(ad, cap, L.take p), (highAd ad cap (p + 1), cap - (p + 1), L.drop (p + 1))] (some ⟨b0, 0, none⟩) 2 w' (by
      intro j u hu
      match j, hu with
      | 0, hu => exact ⟨b0, 0, rfl, World.block_lt_of_cell? _ _ h0, by simp [fsV] at hu; subst hu; rw [Nat.min_eq_left (by omega)]; exact h0⟩
      | 1, hu => exact ⟨b0, 0, rfl, World.block_lt_of_cell? _ _ h1, by simp [fsV] at hu; subst hu; exact h1⟩) (by simp) (by
      intro x hx
      simp at hx
      rcases hx with rfl | rfl
      · exact ⟨row_take flf_len (hL.row.gr g) p (by omega), by simp; omega⟩
      · exact ⟨row_high (hL.row.gr g) cap (p + 1) hL.cap, by simp; omega⟩)
    rw [show allN [(ad, cap, L.take p), (highAd ad cap (p + 1), cap - (p + 1), L.drop (p + 1))] = Sg.drops L p by simp [allN, Sg.drops]] at this
    exact this
  have hlow : ∀ W, (Instr.sliceAt 22 (.slice ad L.length cap) none (some (.int .i64 (p : Int))) none).run Tryz.prog W = .ok (.slice ad p cap) W := fun W => slice_low ad L.length cap p (by omega) hcap W
  have hhigh : ∀ W, (Instr.sliceAt 22 (.slice ad L.length cap) (some (.int .i64 ((p : Int) + 1))) none none).run Tryz.prog W = .ok (.slice (highAd ad cap (p + 1)) (L.length - (p + 1)) (cap - (p + 1))) W := fun W => slice_high ad L.length cap (p + 1) (by omega) W
  generalize hhd : highAd ad cap (p + 1) = hd at *
  have HL := Lib.hid hL.row
  have hpl : (p : Int) < (L.length : Int) := by omega
  have hpn : ((p : Int) == -1) = false := by rw [beq_eq_false_iff_ne]; omega
  have hl3 := hL.len
  clear hL hT
  obtain ⟨b, off, rfl, hb, c0, c1, _⟩ := fl_at HL.out p hp
  go_enter Tryz.func30, Tryz.ntmps30
  go_wp2_with fail
  refine (HR.out _ (by repeat (first | exact Gr.refl _ | refine Gr.alloc ?_ | refine Gr.drew ?_ | refine Gr.trans ?_ (by assumption)))).mono ?_
  rintro e w1 ⟨rfl, hg1⟩
  go_wp2_with fail
  refine (HW.out _ (by repeat (first | exact Gr.refl _ | refine Gr.alloc ?_ | refine Gr.drew ?_ | refine Gr.trans ?_ (by assumption)))).mono ?_
  rintro e w2 ⟨rfl, hg2⟩
  have G2 := Lib.hid (((Gr.refl w).alloc.trans hg1).trans hg2 : Gr w w2)
  have B2 := ((Bx4.new w (.int .i64 0) (.int .i64 0) (.slice none 0 0) (.slice none 0 0) 71 _ rfl).gr hg1).gr hg2
  have c0 := G2.out.keep c0
  have c1 := G2.out.keep c1
  clear hg1 hg2
  generalize hf : L[p] = f at *
  obtain ⟨fn, fd, fy⟩ := f
  simp only at *
  go_wp2_with fail
  refine (HC.out _ G2.out).mono ?_
  rintro e w3 ⟨ab, cb, rfl, hst, hfb, hg3⟩
  have HFb : Hid (∀ p, ab = some p → w.heap.size ≤ p.block) := fun p e => Nat.le_trans G2.out.size (hfb p e)
  clear hfb
  have G3 := Lib.hid (G2.out.trans hg3)
  have B3 := B2.gr hg3
  have c0 := hg3.keep c0
  have HS := Lib.hid hst
  clear hg3 hst B2
  have hs3 : w.heap.size < w3.heap.size := B3.lt
  have hwr : IntKind.i64.wrap ((p : Int) + 1) = (p : Int) + 1 := by rw [IntKind.wrap_i64]; omega
  go_upto_region 11 with fail
  refine beginL 17 (fun w' => w'.cell? ⟨b, off + p * 3, none⟩ = some (.int .i64 fn)) (by kernel_rfl) (by exact Gr.keep (by repeat (first | exact Gr.refl _ | refine Gr.alloc ?_ | refine Gr.drew ?_ | refine Gr.trans ?_ (by assumption))) c0) (fun hHeld => ?_)
  refine takeW 0 44 (v := ?_) rfl rfl (by decide) (by kernel_rfl) (by kernel_rfl) (by kernel_rfl) (fun _ _ _ h => h) (by rfl) ?_ (fun _ => hHeld) ?_
  rotate_left
  · (intro w; (try intro hSw); (try dsimp only at hSw); go_simp; try with_reducible rfl)
  simp only [Act.put, List.setIfInBounds_toArray, List.set_cons_zero, List.set_cons_succ]
  refine takeW 1 45 (v := ?_) rfl rfl (by decide) (by kernel_rfl) (by kernel_rfl) (by kernel_rfl) (fun _ _ _ h => h) (by rfl) ?_ (fun _ => hHeld) ?_
  rotate_left
  · (intro w; (try intro hSw); (try dsimp only at hSw); go_simp; try with_reducible rfl)
  simp only [Act.put, List.setIfInBounds_toArray, List.set_cons_zero, List.set_cons_succ]
  refine takeW 2 46 (v := ?_) rfl rfl (by decide) (by kernel_rfl) (by kernel_rfl) (by kernel_rfl) (fun _ _ _ h => h) (by rfl) ?_ (fun _ => hHeld) ?_
  rotate_left
  · (intro w; (try intro hSw); (try dsimp only at hSw); go_simp; try with_reducible rfl)
  simp only [Act.put, List.setIfInBounds_toArray, List.set_cons_zero, List.set_cons_succ]
  refine takeW 3 47 (v := ?_) rfl rfl (by decide) (by kernel_rfl) (by kernel_rfl) (by kernel_rfl) (fun _ _ _ h => h) (by rfl) ?_ (fun _ => hHeld) ?_
  rotate_left
  · (intro w; (try intro hSw); (try dsimp only at hSw); go_simp; try with_reducible rfl)
  simp only [Act.put, List.setIfInBounds_toArray, List.set_cons_zero, List.set_cons_succ]
  refine takeW 5 49 (v := ?_) rfl rfl (by decide) (by kernel_rfl) (by kernel_rfl) (by kernel_rfl) (fun _ _ _ h => h) (by rfl) ?_ (fun _ => hHeld) ?_
  rotate_left
  · (intro w; (try intro hSw); (try dsimp only at hSw); go_simp; try with_reducible rfl)
  simp only [Act.put, List.setIfInBounds_toArray, List.set_cons_zero, List.set_cons_succ]
  refine takeW 6 50 (v := ?_) rfl rfl (by decide) (by kernel_rfl) (by kernel_rfl) (by kernel_rfl) (fun _ _ _ h => h) (by rfl) ?_ (fun _ => hHeld) ?_
  rotate_left
  · (intro w; (try intro hSw); (try dsimp only at hSw); go_simp; try with_reducible rfl)
  simp only [Act.put, List.setIfInBounds_toArray, List.set_cons_zero, List.set_cons_succ]
  refine takeW 7 51 (v := ?_) rfl rfl (by decide) (by kernel_rfl) (by kernel_rfl) (by kernel_rfl) (fun _ _ _ h => h) (by rfl) ?_ (fun _ => hHeld) ?_
  rotate_left
  · (intro w; (try intro hSw); (try dsimp only at hSw); go_simp; try with_reducible rfl)
  simp only [Act.put, List.setIfInBounds_toArray, List.set_cons_zero, List.set_cons_succ]
  refine takeW 8 52 (v := ?_) rfl rfl (by decide) (by kernel_rfl) (by kernel_rfl) (by kernel_rfl) (fun _ _ _ h => h) (by rfl) ?_ (fun _ => hHeld) ?_
  rotate_left
  · (intro w; (try intro hSw); (try dsimp only at hSw); go_simp; try with_reducible rfl)
  simp only [Act.put, List.setIfInBounds_toArray, List.set_cons_zero, List.set_cons_succ]
  refine takeW 9 53 (v := ?_) rfl rfl (by decide) (by kernel_rfl) (by kernel_rfl) (by kernel_rfl) (fun _ _ _ h => h) (by rfl) ?_ (fun _ => hHeld) ?_
  rotate_left
  · (intro w; (try intro hSw); (try dsimp only at hSw); go_simp; try with_reducible rfl)
  simp only [Act.put, List.setIfInBounds_toArray, List.set_cons_zero, List.set_cons_succ]
  refine takeW 10 54 (v := ?_) rfl rfl (by decide) (by kernel_rfl) (by kernel_rfl) (by kernel_rfl) (fun _ _ _ h => h) (by rfl) ?_ (fun _ => hHeld) ?_
  rotate_left
  · (intro w; (try intro hSw); (try dsimp only at hSw); go_simp; try with_reducible rfl)
  simp only [Act.put, List.setIfInBounds_toArray, List.set_cons_zero, List.set_cons_succ]
  refine takeW 11 55 (v := ?_) rfl rfl (by decide) (by kernel_rfl) (by kernel_rfl) (by kernel_rfl) (fun _ _ _ h => h) (by rfl) ?_ (fun _ => hHeld) ?_
  rotate_left
  · (intro w; (try intro hSw); (try dsimp only at hSw); go_simp; try with_reducible rfl)
  simp only [Act.put, List.setIfInBounds_toArray, List.set_cons_zero, List.set_cons_succ]
  refine takeW 12 56 (v := ?_) rfl rfl (by decide) (by kernel_rfl) (by kernel_rfl) (by kernel_rfl) (fun _ _ _ h => h) (by rfl) ?_ (fun _ => hHeld) ?_
  rotate_left
  · (intro w; (try intro hSw); (try dsimp only at hSw); go_simp; try with_reducible rfl)
  simp only [Act.put, List.setIfInBounds_toArray, List.set_cons_zero, List.set_cons_succ]
  refine takeW 13 57 (v := ?_) rfl rfl (by decide) (by kernel_rfl) (by kernel_rfl) (by kernel_rfl) (fun _ _ _ h => h) (by rfl) ?_ (fun _ => hHeld) ?_
  rotate_left
  · (intro w; (try intro hSw); (try dsimp only at hSw); go_simp; try with_reducible rfl)
  simp only [Act.put, List.setIfInBounds_toArray, List.set_cons_zero, List.set_cons_succ]
  refine takeS 4 48 (v := ?_) rfl rfl (by decide) (by kernel_rfl) (by kernel_rfl) (by kernel_rfl) (by kernel_rfl) (by kernel_rfl) (fun _ _ _ h => h) (by rfl) ?_ hHeld ?_
  rotate_left
  · (intro w; (try intro hSw); (try dsimp only at hSw); go_simp; try with_reducible rfl)
  simp only [Act.put, List.setIfInBounds_toArray, List.set_cons_zero, List.set_cons_succ]
  refine stepC 14 (by kernel_rfl) rfl (fun K hK => ?_)
  go_simp
  refine hK.out _ _ (by exact Gr.keep (by repeat (first | exact Gr.refl _ | refine Gr.alloc ?_ | refine Gr.drew ?_ | refine Gr.trans ?_ (by assumption))) c0) (fun hHeldN => ?_)
  clear hHeld hK K
  have hHeld := hHeldN
  clear hHeldN
  refine stepC 15 (by kernel_rfl) rfl (fun K hK => ?_)
  go_simp
  refine (HN.out _ w3.heap.size (G3.out.trans (by repeat (first | exact Gr.refl _ | refine Gr.alloc ?_ | refine Gr.drew ?_ | refine Gr.trans ?_ (by assumption)))) (by simp) (by simp)).mono ?_; rintro e w4 ⟨ad2, cap2, rfl, hia, hfr, hg4⟩
  (try go_wp2_with fail)
  refine hK.out _ _ (by exact Gr.keep (by repeat (first | exact Gr.refl _ | refine Gr.alloc ?_ | refine Gr.drew ?_ | refine Gr.trans ?_ (by assumption))) c0) (fun hHeldN => ?_)
  clear hHeld hK K
  have hHeld := hHeldN
  clear hHeldN
  have G4 := Lib.hid (G3.out.drew.alloc.trans hg4)
  have B4 := B3.gr ((Gr.refl _).drew.alloc.trans hg4)
  have HS4 := Lib.hid (HS.out.gr ((Gr.refl _).drew.alloc.trans hg4))
  have FA := fill_all B4 HS4.out hia (fun q e => by have := hfr q e; simp at this; omega) fn gd ab B.length cb (.slice ad2 (Sg.drops L p).length cap2)
  have HFA := Lib.hid FA
  have HFr : Hid (∀ q, ad2 = some q → w.heap.size ≤ q.block) := fun q e => by have := hfr q e; simp at this; omega
  obtain ⟨d0, d1, d2, d3, f0, f1, f2, f3, hlt⟩ := B4
  refine takeW 16 60 (v := ?_) rfl rfl (by decide) (by kernel_rfl) (by kernel_rfl) (by kernel_rfl) (fun _ _ _ h => h) (by rfl) ?_ (fun _ => hHeld) ?_
  rotate_left
  · (intro w; (try intro hSw); (try dsimp only at hSw); go_simp; try with_reducible rfl)
  simp only [Act.put, List.setIfInBounds_toArray, List.set_cons_zero, List.set_cons_succ]
  refine stepS (by kernel_rfl) rfl (by kernel_rfl) (fun K hK => ?_)
  go_simp
  refine hK.out _ _ ?_
  clear hHeld hK K
  refine takeW 18 3 (v := ?_) rfl rfl (by decide) (by kernel_rfl) (by kernel_rfl) (by kernel_rfl) (fun _ _ _ h => h) (by rfl) ?_ (fun h => listed_done (by kernel_rfl) h) ?_
  rotate_left
  · (intro w; (try intro hSw); (try dsimp only at hSw); go_simp; try with_reducible rfl)
  simp only [Act.put, List.setIfInBounds_toArray, List.set_cons_zero, List.set_cons_succ]
  refine doneL (by kernel_rfl) ?_ _
  go_wp2
  exact bodyPost_ret (v := .tuple #[.agg #[.int .i64 fn, .int .i64 gd, .slice ab B.length cb, .slice ad2 (Sg.drops L p).length cap2], .int .i64 0]) (by simp [results, Tryz.results30, go_sem, d0, d1, d2, d3]) rfl
    ⟨ab, cb, ad2, cap2, (by rw [hf]), HFA.out.1, HFA.out.2, gr_fill G4.out (Nat.le_refl _) _ _ _ _, HFb.out, HFr.out⟩

set_option maxHeartbeats 4000000 in
set_option maxRecDepth 100000 in
theorem look_torn (L : List Fl) (ad : Option Addr) (cap : Nat) (w : World) (hT : Tab w) (hL : FsAt w ad cap L) (hr : Sg.rise L = true) (p : Nat) (hp : p < L.length) (hw : Sg.lw L L.length = ((p : Int), 0)) (B : List (List UInt8)) (gd : Nat) (hc : Sg.cut L[p] = (B, gd, 10)) :
    Calls Tryz.prog 30 #[.slice ad L.length cap] w fun e w' => LkR ⟨L[p].n, gd, B, Sg.drops L p, 0⟩ w e w' := by
  have HR : Hid (∀ w', Gr w w' → Calls Tryz.prog 54 #[.slice ad L.length cap] w' fun e w2 => e = .returned (.bool true) ∧ Gr w' w2) := fun w' g => by
    have := rise_any L ad cap w' (hL.gr g)
    rw [hr] at this
    exact this
  have HW : Hid (∀ w', Gr w w' → Calls Tryz.prog 55 #[.slice ad L.length cap, .func (.func 56) #[] #[]] w' fun e w2 => e = .returned (.tuple #[.int .i64 (p : Int), .int .i64 0]) ∧ Gr w' w2) := fun w' g => by
    have := lastWhole_any L ad cap w' (hT.gr g) (hL.gr g)
    rw [hw] at this
    exact this
  have HC : Hid (∀ w', Gr w w' → Calls Tryz.prog 59 #[.string L[p].d, .int .i64 3] w' fun e w2 => ∃ ab cb, e = .returned (.tuple #[.slice ab B.length cb, .int .i64 (gd : Int), .int .i64 (10)]) ∧ StrsAt w2 ab (B.map mkT) ∧ (∀ p, ab = some p → w'.heap.size ≤ p.block) ∧ Gr w' w2) := fun w' g => by
    have := cut_fresh L[p].d 3 w' (hT.gr g) (by have := (hL.rng _ (List.getElem_mem hp)).2.2; omega)
    unfold Sg.cut at hc
    rw [hc] at this
    exact this
  have hlen := hL.len
  have hcap := hL.cap
  have HN : Hid (∀ (w' : World) (b0 : Nat), Gr w w' → w'.cell? ⟨b0, 0, none⟩ = some (.slice ad p cap) → w'.cell? ⟨b0, 1, none⟩ = some (.slice (highAd ad cap (p + 1)) (L.length - (p + 1)) (cap - (p + 1))) → Calls Tryz.prog 58 #[.slice (some ⟨b0, 0, none⟩) 2 2] w' fun e w2 => ∃ ad2 cap2, e = .returned (.slice ad2 (Sg.drops L p).length cap2) ∧ IntsAt w2 ad2 (Sg.drops L p) ∧ (∀ q, ad2 = some q → w'.heap.size ≤ q.block) ∧ Gr w' w2) := fun w' b0 g h0 h1 => by
    have := numbers_any [(ad, cap, L.take p), (highAd ad cap (p + 1), cap - (p + 1), L.drop (p + 1))] (some ⟨b0, 0, none⟩) 2 w' (by
      intro j u hu
      match j, hu with
      | 0, hu => exact ⟨b0, 0, rfl, World.block_lt_of_cell? _ _ h0, by simp [fsV] at hu; subst hu; rw [Nat.min_eq_left (by omega)]; exact h0⟩
      | 1, hu => exact ⟨b0, 0, rfl, World.block_lt_of_cell? _ _ h1, by simp [fsV] at hu; subst hu; exact h1⟩) (by simp) (by
      intro x hx
      simp at hx
      rcases hx with rfl | rfl
      · exact ⟨row_take flf_len (hL.row.gr g) p (by omega), by simp; omega⟩
      · exact ⟨row_high (hL.row.gr g) cap (p + 1) hL.cap, by simp; omega⟩)
    rw [show allN [(ad, cap, L.take p), (highAd ad cap (p + 1), cap - (p + 1), L.drop (p + 1))] = Sg.drops L p by simp [allN, Sg.drops]] at this
    exact this
  have hlow : ∀ W, (Instr.sliceAt 22 (.slice ad L.length cap) none (some (.int .i64 (p : Int))) none).run Tryz.prog W = .ok (.slice ad p cap) W := fun W => slice_low ad L.length cap p (by omega) hcap W
  have hhigh : ∀ W, (Instr.sliceAt 22 (.slice ad L.length cap) (some (.int .i64 ((p : Int) + 1))) none none).run Tryz.prog W = .ok (.slice (highAd ad cap (p + 1)) (L.length - (p + 1)) (cap - (p + 1))) W := fun W => slice_high ad L.length cap (p + 1) (by omega) W
  generalize hhd : highAd ad cap (p + 1) = hd at *
  have HL := Lib.hid hL.row
  have hpl : (p : Int) < (L.length : Int) := by omega
  have hpn : ((p : Int) == -1) = false := by rw [beq_eq_false_iff_ne]; omega
  have hl3 := hL.len
  clear hL hT
  obtain ⟨b, off, rfl, hb, c0, c1, _⟩ := fl_at HL.out p hp
  go_enter Tryz.func30, Tryz.ntmps30
  go_wp2_with fail
  refine (HR.out _ (by repeat (first | exact Gr.refl _ | refine Gr.alloc ?_ | refine Gr.drew ?_ | refine Gr.trans ?_ (by assumption)))).mono ?_
  rintro e w1 ⟨rfl, hg1⟩
  go_wp2_with fail
  refine (HW.out _ (by repeat (first | exact Gr.refl _ | refine Gr.alloc ?_ | refine Gr.drew ?_ | refine Gr.trans ?_ (by assumption)))).mono ?_
  rintro e w2 ⟨rfl, hg2⟩
  have G2 := Lib.hid (((Gr.refl w).alloc.trans hg1).trans hg2 : Gr w w2)
  have B2 := ((Bx4.new w (.int .i64 0) (.int .i64 0) (.slice none 0 0) (.slice none 0 0) 71 _ rfl).gr hg1).gr hg2
  have c0 := G2.out.keep c0
  have c1 := G2.out.keep c1
  clear hg1 hg2
  generalize hf : L[p] = f at *
  obtain ⟨fn, fd, fy⟩ := f
  simp only at *
  go_wp2_with fail
  refine (HC.out _ G2.out).mono ?_
  rintro e w3 ⟨ab, cb, rfl, hst, hfb, hg3⟩
  have HFb : Hid (∀ p, ab = some p → w.heap.size ≤ p.block) := fun p e => Nat.le_trans G2.out.size (hfb p e)
  clear hfb
  have G3 := Lib.hid (G2.out.trans hg3)
  have B3 := B2.gr hg3
  have c0 := hg3.keep c0
  have HS := Lib.hid hst
  clear hg3 hst B2
  have hs3 : w.heap.size < w3.heap.size := B3.lt
  have hwr : IntKind.i64.wrap ((p : Int) + 1) = (p : Int) + 1 := by rw [IntKind.wrap_i64]; omega
  go_upto_region 11 with fail
  refine beginL 17 (fun w' => w'.cell? ⟨b, off + p * 3, none⟩ = some (.int .i64 fn)) (by kernel_rfl) (by exact Gr.keep (by repeat (first | exact Gr.refl _ | refine Gr.alloc ?_ | refine Gr.drew ?_ | refine Gr.trans ?_ (by assumption))) c0) (fun hHeld => ?_)
  refine takeW 0 44 (v := ?_) rfl rfl (by decide) (by kernel_rfl) (by kernel_rfl) (by kernel_rfl) (fun _ _ _ h => h) (by rfl) ?_ (fun _ => hHeld) ?_
  rotate_left
  · (intro w; (try intro hSw); (try dsimp only at hSw); go_simp; try with_reducible rfl)
  simp only [Act.put, List.setIfInBounds_toArray, List.set_cons_zero, List.set_cons_succ]
  refine takeW 1 45 (v := ?_) rfl rfl (by decide) (by kernel_rfl) (by kernel_rfl) (by kernel_rfl) (fun _ _ _ h => h) (by rfl) ?_ (fun _ => hHeld) ?_
  rotate_left
  · (intro w; (try intro hSw); (try dsimp only at hSw); go_simp; try with_reducible rfl)
  simp only [Act.put, List.setIfInBounds_toArray, List.set_cons_zero, List.set_cons_succ]
  refine takeW 2 46 (v := ?_) rfl rfl (by decide) (by kernel_rfl) (by kernel_rfl) (by kernel_rfl) (fun _ _ _ h => h) (by rfl) ?_ (fun _ => hHeld) ?_
  rotate_left
  · (intro w; (try intro hSw); (try dsimp only at hSw); go_simp; try with_reducible rfl)
  simp only [Act.put, List.setIfInBounds_toArray, List.set_cons_zero, List.set_cons_succ]
  refine takeW 3 47 (v := ?_) rfl rfl (by decide) (by kernel_rfl) (by kernel_rfl) (by kernel_rfl) (fun _ _ _ h => h) (by rfl) ?_ (fun _ => hHeld) ?_
  rotate_left
  · (intro w; (try intro hSw); (try dsimp only at hSw); go_simp; try with_reducible rfl)
  simp only [Act.put, List.setIfInBounds_toArray, List.set_cons_zero, List.set_cons_succ]
  refine takeW 5 49 (v := ?_) rfl rfl (by decide) (by kernel_rfl) (by kernel_rfl) (by kernel_rfl) (fun _ _ _ h => h) (by rfl) ?_ (fun _ => hHeld) ?_
  rotate_left
  · (intro w; (try intro hSw); (try dsimp only at hSw); go_simp; try with_reducible rfl)
  simp only [Act.put, List.setIfInBounds_toArray, List.set_cons_zero, List.set_cons_succ]
  refine takeW 6 50 (v := ?_) rfl rfl (by decide) (by kernel_rfl) (by kernel_rfl) (by kernel_rfl) (fun _ _ _ h => h) (by rfl) ?_ (fun _ => hHeld) ?_
  rotate_left
  · (intro w; (try intro hSw); (try dsimp only at hSw); go_simp; try with_reducible rfl)
  simp only [Act.put, List.setIfInBounds_toArray, List.set_cons_zero, List.set_cons_succ]
  refine takeW 7 51 (v := ?_) rfl rfl (by decide) (by kernel_rfl) (by kernel_rfl) (by kernel_rfl) (fun _ _ _ h => h) (by rfl) ?_ (fun _ => hHeld) ?_
  rotate_left
  · (intro w; (try intro hSw); (try dsimp only at hSw); go_simp; try with_reducible rfl)
  simp only [Act.put, List.setIfInBounds_toArray, List.set_cons_zero, List.set_cons_succ]
  refine takeW 8 52 (v := ?_) rfl rfl (by decide) (by kernel_rfl) (by kernel_rfl) (by kernel_rfl) (fun _ _ _ h => h) (by rfl) ?_ (fun _ => hHeld) ?_
  rotate_left
  · (intro w; (try intro hSw); (try dsimp only at hSw); go_simp; try with_reducible rfl)
  simp only [Act.put, List.setIfInBounds_toArray, List.set_cons_zero, List.set_cons_succ]
  refine takeW 9 53 (v := ?_) rfl rfl (by decide) (by kernel_rfl) (by kernel_rfl) (by kernel_rfl) (fun _ _ _ h => h) (by rfl) ?_ (fun _ => hHeld) ?_
  rotate_left
  · (intro w; (try intro hSw); (try dsimp only at hSw); go_simp; try with_reducible rfl)
  simp only [Act.put, List.setIfInBounds_toArray, List.set_cons_zero, List.set_cons_succ]
  refine takeW 10 54 (v := ?_) rfl rfl (by decide) (by kernel_rfl) (by kernel_rfl) (by kernel_rfl) (fun _ _ _ h => h) (by rfl) ?_ (fun _ => hHeld) ?_
  rotate_left
  · (intro w; (try intro hSw); (try dsimp only at hSw); go_simp; try with_reducible rfl)
  simp only [Act.put, List.setIfInBounds_toArray, List.set_cons_zero, List.set_cons_succ]
  refine takeW 11 55 (v := ?_) rfl rfl (by decide) (by kernel_rfl) (by kernel_rfl) (by kernel_rfl) (fun _ _ _ h => h) (by rfl) ?_ (fun _ => hHeld) ?_
  rotate_left
  · (intro w; (try intro hSw); (try dsimp only at hSw); go_simp; try with_reducible rfl)
  simp only [Act.put, List.setIfInBounds_toArray, List.set_cons_zero, List.set_cons_succ]
  refine takeW 12 56 (v := ?_) rfl rfl (by decide) (by kernel_rfl) (by kernel_rfl) (by kernel_rfl) (fun _ _ _ h => h) (by rfl) ?_ (fun _ => hHeld) ?_
  rotate_left
  · (intro w; (try intro hSw); (try dsimp only at hSw); go_simp; try with_reducible rfl)
  simp only [Act.put, List.setIfInBounds_toArray, List.set_cons_zero, List.set_cons_succ]
  refine takeW 13 57 (v := ?_) rfl rfl (by decide) (by kernel_rfl) (by kernel_rfl) (by kernel_rfl) (fun _ _ _ h => h) (by rfl) ?_ (fun _ => hHeld) ?_
  rotate_left
  · (intro w; (try intro hSw); (try dsimp only at hSw); go_simp; try with_reducible rfl)
  simp only [Act.put, List.setIfInBounds_toArray, List.set_cons_zero, List.set_cons_succ]
  refine takeS 4 48 (v := ?_) rfl rfl (by decide) (by kernel_rfl) (by kernel_rfl) (by kernel_rfl) (by kernel_rfl) (by kernel_rfl) (fun _ _ _ h => h) (by rfl) ?_ hHeld ?_
  rotate_left
  · (intro w; (try intro hSw); (try dsimp only at hSw); go_simp; try with_reducible rfl)
  simp only [Act.put, List.setIfInBounds_toArray, List.set_cons_zero, List.set_cons_succ]
  refine stepC 14 (by kernel_rfl) rfl (fun K hK => ?_)
  go_simp
  refine hK.out _ _ (by exact Gr.keep (by repeat (first | exact Gr.refl _ | refine Gr.alloc ?_ | refine Gr.drew ?_ | refine Gr.trans ?_ (by assumption))) c0) (fun hHeldN => ?_)
  clear hHeld hK K
  have hHeld := hHeldN
  clear hHeldN
  refine stepC 15 (by kernel_rfl) rfl (fun K hK => ?_)
  go_simp
  refine (HN.out _ w3.heap.size (G3.out.trans (by repeat (first | exact Gr.refl _ | refine Gr.alloc ?_ | refine Gr.drew ?_ | refine Gr.trans ?_ (by assumption)))) (by simp) (by simp)).mono ?_; rintro e w4 ⟨ad2, cap2, rfl, hia, hfr, hg4⟩
  (try go_wp2_with fail)
  refine hK.out _ _ (by exact Gr.keep (by repeat (first | exact Gr.refl _ | refine Gr.alloc ?_ | refine Gr.drew ?_ | refine Gr.trans ?_ (by assumption))) c0) (fun hHeldN => ?_)
  clear hHeld hK K
  have hHeld := hHeldN
  clear hHeldN
  have G4 := Lib.hid (G3.out.drew.alloc.trans hg4)
  have B4 := B3.gr ((Gr.refl _).drew.alloc.trans hg4)
  have HS4 := Lib.hid (HS.out.gr ((Gr.refl _).drew.alloc.trans hg4))
  have FA := fill_all B4 HS4.out hia (fun q e => by have := hfr q e; simp at this; omega) fn gd ab B.length cb (.slice ad2 (Sg.drops L p).length cap2)
  have HFA := Lib.hid FA
  have HFr : Hid (∀ q, ad2 = some q → w.heap.size ≤ q.block) := fun q e => by have := hfr q e; simp at this; omega
  obtain ⟨d0, d1, d2, d3, f0, f1, f2, f3, hlt⟩ := B4
  refine takeW 16 60 (v := ?_) rfl rfl (by decide) (by kernel_rfl) (by kernel_rfl) (by kernel_rfl) (fun _ _ _ h => h) (by rfl) ?_ (fun _ => hHeld) ?_
  rotate_left
  · (intro w; (try intro hSw); (try dsimp only at hSw); go_simp; try with_reducible rfl)
  simp only [Act.put, List.setIfInBounds_toArray, List.set_cons_zero, List.set_cons_succ]
  refine stepS (by kernel_rfl) rfl (by kernel_rfl) (fun K hK => ?_)
  go_simp
  refine hK.out _ _ ?_
  clear hHeld hK K
  refine takeW 18 3 (v := ?_) rfl rfl (by decide) (by kernel_rfl) (by kernel_rfl) (by kernel_rfl) (fun _ _ _ h => h) (by rfl) ?_ (fun h => listed_done (by kernel_rfl) h) ?_
  rotate_left
  · (intro w; (try intro hSw); (try dsimp only at hSw); go_simp; try with_reducible rfl)
  simp only [Act.put, List.setIfInBounds_toArray, List.set_cons_zero, List.set_cons_succ]
  refine doneL (by kernel_rfl) ?_ _
  go_wp2
  exact bodyPost_ret (v := .tuple #[.agg #[.int .i64 fn, .int .i64 gd, .slice ab B.length cb, .slice ad2 (Sg.drops L p).length cap2], .int .i64 0]) (by simp [results, Tryz.results30, go_sem, d0, d1, d2, d3]) rfl
    ⟨ab, cb, ad2, cap2, (by rw [hf]), HFA.out.1, HFA.out.2, gr_fill G4.out (Nat.le_refl _) _ _ _ _, HFb.out, HFr.out⟩

theorem look_any (L : List Fl) (ad : Option Addr) (cap : Nat) (w : World) (hT : Tab w) (hL : FsAt w ad cap L) :
    Calls Tryz.prog 30 #[.slice ad L.length cap] w fun e w' => LkR (Sg.look L) w e w' := by
  rcases hr : Sg.rise L with _ | _
  · rw [show Sg.look L = Sg.bad 2 by unfold Sg.look; rw [hr]; rfl]
    exact look_rise L ad cap w hL hr
  · rcases Sg.lw_range L L.length with (h | h) | ⟨p, hp, h, _⟩
    · rw [show Sg.look L = ⟨-1, 0, [], Sg.nums L, 0⟩ by unfold Sg.look; rw [hr, h]; rfl]
      exact look_none L ad cap w hT hL hr h
    · rw [show Sg.look L = Sg.bad 170 by unfold Sg.look; rw [hr, h]; rfl]
      exact look_bad L ad cap w hT hL hr h
    · have hlk : Sg.look L = Sg.found L p := by
        unfold Sg.look
        rw [hr, h, if_pos rfl, if_pos rfl, if_neg (by show ¬ ((p : Int) = -1); omega)]
        rfl
      rw [hlk]
      unfold Sg.found
      rw [Sg.at_eq L p hp]
      obtain ⟨⟨B, gd, er⟩, hc⟩ : ∃ r, Sg.cut L[p] = r := ⟨_, rfl⟩
      rw [hc]
      simp only
      by_cases e0 : er = 0
      · subst e0
        rw [if_pos (Or.inl rfl)]
        exact look_all L ad cap w hT hL hr p hp h B gd hc
      · by_cases e1 : er = 10
        · subst e1
          rw [if_pos (Or.inr rfl)]
          exact look_torn L ad cap w hT hL hr p hp h B gd hc
        · rw [if_neg (by omega)]
          exact look_wrong L ad cap w hT hL hr p hp h B gd er e0 e1 hc
end Go.Proofs.YtojmhhmpmpbpfaaGreatDoor
