/- For every row of events the law LinkOnce answers true: whatever is lost, doubled, or late, each note is handed out at most as often as it was pushed, and nothing else is; no condition. -/
import Derived.Test.YthfbpilfdfploaaGU
import Derived.Test.YthfbpilfdfploaaGW
import Derived.Test.YthfbpilfdfploaaGL
import Derived.Deep.CutBlock
import Derived.BigRegion
namespace Go.Proofs.Ythfbpilfdfploaa
open Go.ChangeShapes Go.WideShapes Go.ChangeAt Go.RowKit
open Lk (St)

def OnceI (w wr : World) (gp i : Nat) (m : Nat) : Prop := ∃ Z g l vl P H ad cap D, Pa Z w wr gp g l vl (i : Int) P H ad cap D ∧ On l (frs D) P H ∧ (∀ j, j < 16 → P j ≤ i) ∧ D.length ≤ m
set_option maxHeartbeats 16000000 in
set_option maxRecDepth 100000 in
theorem linkOnce_walk (E : List Ev) (ad : Option Addr) (cap : Nat) (w : World) (hE : RowAt eC w ad E) (hn : E.length ≤ 9223372036854775807) (hi : ∀ z ∈ E, EvIn z) :
    Calls Try.prog 4 #[.slice ad E.length cap] w fun e w' => e = .returned (.bool true) ∧ Gr w w' := by
  have HA : Hid (∀ w', Calls Try.prog 13 #[] w' fun e w2 => AwR w' e w2) := fun w' => awake_any w'
  have HB : Hid (Calls Try.prog 14 #[] w fun e w2 => BgR w e w2) := begun_any w
  have HE := Lib.hid hE
  have HI := Lib.hid hi
  clear hE hi
  by_cases h1 : 250 < E.length
  · have h1' : (250 : Int) < (E.length : Int) := by omega
    go_enter Try.func4, Try.ntmps4
    go_wp2_with fail
    refine (HA.out _).mono ?_
    rintro e1 w1 ⟨rfl, hg1⟩
    go_wp2
    go_ret
    exact ⟨rfl, hg1⟩
  · have h1' : ¬ (250 : Int) < (E.length : Int) := by omega
    have HLen : Hid (E.length ≤ 250) := by show _ ≤ _; omega
    go_enter Try.func4, Try.ntmps4
    go_wp2_with fail
    refine HB.out.mono ?_
    rintro e1 w1 ⟨Z, gp, g, rfl, hpa⟩
    have HI0 : Hid (OnceI w w1 gp 0 400) := ⟨Z, g, _, _, _, _, _, _, _, hpa, on_new, fun _ _ => by simp, by simp⟩
    clear hpa
    go_wp2
    go_loopw [5] (fun s5 wr => ∃ i : Nat, s5 = .int .i64 i ∧ i ≤ E.length ∧ OnceI w wr gp i 400) (fun s5 _ => E.length - (intOf s5).toNat)
    case atStart => exact ⟨0, rfl, Nat.zero_le _, HI0.out⟩
    case round =>
      obtain ⟨i, rfl, hi, hf⟩ := hrel
      obtain ⟨Z, g, l, vl, P, H, ad2, cap2, D, hpa, htw, hvl, hD⟩ := hf
      have HP := Lib.hid hpa
      have HT := Lib.hid htw
      have HV := Lib.hid hvl
      have HDl := Lib.hid hD
      clear hpa htw hvl hD HI0
      by_cases hlt : i < E.length
      · obtain ⟨bb, off, rfl, hbl, d0, d1, d2, d3⟩ := EvsRow.at HE.out i hlt
        have hg := HP.out.pl.gr
        have hbw : bb < wr.heap.size := Nat.lt_of_lt_of_le hbl hg.size
        have d0 := hg.keep d0
        have d1 := hg.keep d1
        have d2 := hg.keep d2
        have d3 := hg.keep d3
        have hji : (i : Int) < (E.length : Int) := by omega
        have hj0 : (0 : Int) ≤ (i : Int) := by omega
        have HIn := Lib.hid (HI.out E[i] (List.getElem_mem hlt))
        clear hg hbl
        generalize E[i] = z at *
        obtain ⟨vk, vf, vs, vw⟩ := z
        dsimp only at *
        have q5 := HP.out.pc.cn
        have qf5 := HP.out.pc.fz 5 (by omega)
        have ql := HP.out.pc.lt
        go_upto_block 2 with fail
        have HEp0 : Hid (∀ t, t < 2 → (l t).ep ≠ 0) := fun t ht => by have := HT.out.ep ht; omega
        obtain ⟨s, hs, hse⟩ := side_of vf
        have hs2 : (s : Int) < 2 := by omega
        have hs0 : (0 : Int) ≤ (s : Int) := by omega
        obtain ⟨wA, hwA⟩ : ∃ x, x = (wr.setCell ⟨gp, 5, none⟩ (.int .i64 ((i : Int) + 1))).alloc (.cells #[.int .i64 vk, .int .i64 vf, .int .i64 vs, .int .i64 vw] 57) := ⟨_, rfl⟩
        have HPA : Hid (Pa Z w wA gp g l vl ((i : Int) + 1) P H ad2 cap2 D) := by
          show Pa _ _ _ _ _ _ _ _ _ _ _ _ _
          rw [hwA]
          exact (HP.out.setN ((i : Int) + 1)).up (Gr.refl _).alloc
        obtain ⟨gv, hgv⟩ : ∃ x, x = wr.heap.size := ⟨_, rfl⟩
        have HXv : Hid (Cs wA gv [.int .i64 vk, .int .i64 vf, .int .i64 vs, .int .i64 vw]) := by
          show Cs _ _ _
          rw [hwA, hgv]
          exact Cs.new _ _ _ _ (by simp)
        have HGv : Hid ((∀ t, t < 2 → g t ≠ gv) ∧ gv ≠ gp) := ⟨fun t ht => by have := HP.out.pl.lt ht; omega, by have := HP.out.pl.lx; omega⟩
        have HEq : Hid (∀ t, t < 2 → (l t).ep ≠ 0) := HEp0.out
        have HEp : Hid ((l s).ep ≠ 0) := HEp0.out s hs
        have x0 := HXv.out.at_ 0 _ rfl
        have x1 := HXv.out.at_ 1 _ rfl
        have x2 := HXv.out.at_ 2 _ rfl
        have x3 := HXv.out.at_ 3 _ rfl
        have xl := HXv.out.lt
        have hci : ((i + 1 : Nat) : Int) = (i : Int) + 1 := by omega
        have HCi := Lib.hid hci
        clear hci
        have HTok : Hid (∀ f ∈ frs D, ∃ s t : Nat, s < 2 ∧ s + t = 1 ∧ FrOk s t f) := fun f hf => HT.out.frok hf
        have HPm : Hid (∀ j, j < 16 → P j ≤ 1000000) := fun j hj => by have := HV.out j hj; have := HLen.out; omega
        rw [hse, ← hwA, ← hgv]
        clear hwA hgv hse HXv HP HIn d0 d1 d2 d3 q5 qf5 ql hbw
        go_cut [8] from 45 to 178 (fun _ wx => OnceI w wx gp (i + 1) 412)
        case first =>
          by_cases p0 : vk = 0
          · skip
            subst p0
            obtain ⟨k, hk, hke⟩ := note_of vs
            have q5 := HPA.out.pc.cn
            have qs := HPA.out.pc.ck s hs
            have ql := HPA.out.pc.lt
            have HSz : Hid (gp < wA.heap.size ∧ gp ≠ g s) := ⟨ql, (HPA.out.pl.np s hs).symm⟩
            have hk8 : (k : Int) < 8 := by omega
            have hk0 : (0 : Int) ≤ (k : Int) := by omega
            have HNo : Hid (∀ w', Gr wA w' → Calls Try.prog 15 #[.int .i64 (s : Int), .int .i64 (k : Int)] w' fun e w2 => ∃ p, e = .returned (.agg #[.int .i64 (ntF s k).k, .int .i64 0, .int .i64 1, .slice p 1 1, .string ⟨#[]⟩, .int .i64 0]) ∧ MnAt Z w2 ⟨ntF s k, p, 1⟩ ∧ Gr w' w2) := fun w' q => note_any _ _ w' (HPA.out.up q).pl.fr
            have HWt : Hid (∀ w' p, Gr wA w' → MnAt Z w' ⟨ntF s k, p, 1⟩ → Calls Try.prog 9 #[.pointer (some ⟨g s, 0, none⟩), .agg #[.int .i64 (ntF s k).k, .int .i64 0, .int .i64 1, .slice p 1 1, .string ⟨#[]⟩, .int .i64 0]] w' fun e w2 => e = .returned (.bool (Ox.hasB okN (l s).it (nt s k))) ∧ Gr w' w2) := fun w' p q1 q2 => kWaits_any (g s) (l s) ⟨ntF s k, p, 1⟩ w' ((HPA.out.up q1).pl.pk s hs) HEp.out q2
            have HSd : Hid (∀ w' gq p, Gr wA w' → NtsAt Z w' (some ⟨gq, 0, none⟩) [⟨ntF s k, p, 1⟩] → Calls Try.prog 7 #[.pointer (some ⟨g s, 0, none⟩), .int .i64 ((i : Int) + 1), .slice (some ⟨gq, 0, none⟩) 1 1] w' fun e w2 => e = .returned (.int .i64 (Lk.sendE CX (l s) ((i : Int) + 1) [nt s k])) ∧ Pa Z w w2 gp g (upd l s (Lk.sendS CX (l s) ((i : Int) + 1) [nt s k])) vl ((i : Int) + 1) P H ad2 cap2 D ∧ GB (g s) w' w2) := fun w' gq p g1 g2 => a_send (HPA.out.up g1) hs HEp.out ⟨ntF s k, p, 1⟩ ((i : Int) + 1) gq g2
            clear x0 x1 x3
            cases hwt : Ox.hasB okN (l s).it (nt s k) with
            | true =>
              rw [hwt] at HWt
              clear hwt
              go_wp2_with fail
              refine wp_region_held_drew (S := (fun w' => KB (fun b => b = g s) wA w' ∧ w'.cell? ⟨gp, s, none⟩ = some (.pointer (some ⟨g s, 0, none⟩)) ∧ w'.cell? ⟨gp, 5, none⟩ = some (.int .i64 ((i : Int) + 1)))) (by kernel_rfl) (by exact ⟨(by (repeat' (first | with_reducible exact KB.refl _ _ | with_reducible refine KB.setc ?_ ?_ | with_reducible refine KB.alloc ?_ | with_reducible refine KB.drew ?_ | with_reducible refine KB.trans ?_ (by assumption))) <;> (first | (simp; done) | (simp; omega) | omega)), KB.cell (S := fun b => b = g s) (by (repeat' (first | with_reducible exact KB.refl _ _ | with_reducible refine KB.setc ?_ ?_ | with_reducible refine KB.alloc ?_ | with_reducible refine KB.drew ?_ | with_reducible refine KB.trans ?_ (by assumption))) <;> (first | (simp; done) | (simp; omega) | omega)) _ _ _ HSz.out.1 HSz.out.2 qs, KB.cell (S := fun b => b = g s) (by (repeat' (first | with_reducible exact KB.refl _ _ | with_reducible refine KB.setc ?_ ?_ | with_reducible refine KB.alloc ?_ | with_reducible refine KB.drew ?_ | with_reducible refine KB.trans ?_ (by assumption))) <;> (first | (simp; done) | (simp; omega) | omega)) _ _ _ HSz.out.1 HSz.out.2 q5⟩) (fun hHeld => ?_)
              refine ty 0 52 hHeld ?_
              refine ty 1 53 hHeld ?_
              refine ty 2 54 hHeld ?_
              refine ty 3 55 hHeld ?_
              refine ty 4 56 hHeld ?_
              refine ty 5 57 hHeld ?_
              refine ty 6 58 hHeld ?_
              refine ty 7 59 hHeld ?_
              refine wpAnyH_ready (rs := [8]) (by kernel_rfl) (by simp) (AllReadyH.cons rfl (fun K hK => ?_) AllReadyH.nil)
              go_simp
              (go_at_call 15; refine (HNo.out _ (Gr.refl _).drew).mono ?_; rintro e wn ⟨p, rfl, hmn, hgn⟩; have hkn := KB.ofGr (S := fun b => b = g s) hgn)
              (try go_wp2_with fail)
              refine hK.out _ _ (by exact ⟨(by (repeat' (first | with_reducible exact KB.refl _ _ | with_reducible refine KB.setc ?_ ?_ | with_reducible refine KB.alloc ?_ | with_reducible refine KB.drew ?_ | with_reducible refine KB.trans ?_ (by assumption))) <;> (first | (simp; done) | (simp; omega) | omega)), KB.cell (S := fun b => b = g s) (by (repeat' (first | with_reducible exact KB.refl _ _ | with_reducible refine KB.setc ?_ ?_ | with_reducible refine KB.alloc ?_ | with_reducible refine KB.drew ?_ | with_reducible refine KB.trans ?_ (by assumption))) <;> (first | (simp; done) | (simp; omega) | omega)) _ _ _ HSz.out.1 HSz.out.2 qs, KB.cell (S := fun b => b = g s) (by (repeat' (first | with_reducible exact KB.refl _ _ | with_reducible refine KB.setc ?_ ?_ | with_reducible refine KB.alloc ?_ | with_reducible refine KB.drew ?_ | with_reducible refine KB.trans ?_ (by assumption))) <;> (first | (simp; done) | (simp; omega) | omega)) _ _ _ HSz.out.1 HSz.out.2 q5⟩) (fun hHeldN => ?_)
              clear hHeld hK K
              have hHeld := hHeldN
              clear hHeldN
              refine wpAnyH_ready (rs := [9]) (by kernel_rfl) (by simp) (AllReadyH.cons rfl (fun K hK => ?_) AllReadyH.nil)
              go_simp
              (go_at_call 9; refine (HWt.out _ p ((Gr.refl _).drew.trans hgn) hmn).mono ?_; rintro e wn2 ⟨rfl, hgn2⟩; have hkn2 := KB.ofGr (S := fun b => b = g s) hgn2)
              (try go_wp2_with fail)
              refine hK.out _ _ (by exact ⟨(by (repeat' (first | with_reducible exact KB.refl _ _ | with_reducible refine KB.setc ?_ ?_ | with_reducible refine KB.alloc ?_ | with_reducible refine KB.drew ?_ | with_reducible refine KB.trans ?_ (by assumption))) <;> (first | (simp; done) | (simp; omega) | omega)), KB.cell (S := fun b => b = g s) (by (repeat' (first | with_reducible exact KB.refl _ _ | with_reducible refine KB.setc ?_ ?_ | with_reducible refine KB.alloc ?_ | with_reducible refine KB.drew ?_ | with_reducible refine KB.trans ?_ (by assumption))) <;> (first | (simp; done) | (simp; omega) | omega)) _ _ _ HSz.out.1 HSz.out.2 qs, KB.cell (S := fun b => b = g s) (by (repeat' (first | with_reducible exact KB.refl _ _ | with_reducible refine KB.setc ?_ ?_ | with_reducible refine KB.alloc ?_ | with_reducible refine KB.drew ?_ | with_reducible refine KB.trans ?_ (by assumption))) <;> (first | (simp; done) | (simp; omega) | omega)) _ _ _ HSz.out.1 HSz.out.2 q5⟩) (fun hHeldN => ?_)
              clear hHeld hK K
              have hHeld := hHeldN
              clear hHeldN
              refine ty 10 62 hHeld ?_
              refine ty 11 63 hHeld ?_
              refine tn 12 64 hHeld ?_
              refine tn 13 65 hHeld ?_
              refine tn 14 66 hHeld ?_
              refine tn 15 67 hHeld ?_
              refine tn 16 68 hHeld ?_
              refine tn 17 69 hHeld ?_
              refine tn 18 70 hHeld ?_
              refine tn 19 71 hHeld ?_
              refine tn 20 72 hHeld ?_
              refine tn 21 73 hHeld ?_
              refine tn 22 74 hHeld ?_
              refine tn 23 75 hHeld ?_
              refine tn 24 76 hHeld ?_
              refine tn 25 77 hHeld ?_
              refine tn 26 78 hHeld ?_
              refine tn 27 79 hHeld ?_
              refine ty 28 80 hHeld ?_
              refine wpAnyH_done (by kernel_rfl) ?_ _
              have HGn : Hid (Gr wA wn2) := ((Gr.refl wA).drew.trans hgn).trans hgn2
              clear hHeld hmn hgn hgn2 hkn hkn2 q5 qs ql
              go_wp2_with fail
              go_meet
              exact ⟨Z, g, l, vl, P, H, ad2, cap2, D, (by rw [HCi.out]; exact (HPA.out.up HGn.out)), HT.out, (fun q hq => by have := HV.out q hq; omega), (by have := HDl.out; omega)⟩
            | false =>
              rw [hwt] at HWt
              have HWf := Lib.hid hwt
              clear hwt
              go_wp2_with fail
              refine wp_region_held_drew (S := (fun w' => KB (fun b => b = g s) wA w' ∧ w'.cell? ⟨gp, s, none⟩ = some (.pointer (some ⟨g s, 0, none⟩)) ∧ w'.cell? ⟨gp, 5, none⟩ = some (.int .i64 ((i : Int) + 1)))) (by kernel_rfl) (by exact ⟨(by (repeat' (first | with_reducible exact KB.refl _ _ | with_reducible refine KB.setc ?_ ?_ | with_reducible refine KB.alloc ?_ | with_reducible refine KB.drew ?_ | with_reducible refine KB.trans ?_ (by assumption))) <;> (first | (simp; done) | (simp; omega) | omega)), KB.cell (S := fun b => b = g s) (by (repeat' (first | with_reducible exact KB.refl _ _ | with_reducible refine KB.setc ?_ ?_ | with_reducible refine KB.alloc ?_ | with_reducible refine KB.drew ?_ | with_reducible refine KB.trans ?_ (by assumption))) <;> (first | (simp; done) | (simp; omega) | omega)) _ _ _ HSz.out.1 HSz.out.2 qs, KB.cell (S := fun b => b = g s) (by (repeat' (first | with_reducible exact KB.refl _ _ | with_reducible refine KB.setc ?_ ?_ | with_reducible refine KB.alloc ?_ | with_reducible refine KB.drew ?_ | with_reducible refine KB.trans ?_ (by assumption))) <;> (first | (simp; done) | (simp; omega) | omega)) _ _ _ HSz.out.1 HSz.out.2 q5⟩) (fun hHeld => ?_)
              refine ty 0 52 hHeld ?_
              refine ty 1 53 hHeld ?_
              refine ty 2 54 hHeld ?_
              refine ty 3 55 hHeld ?_
              refine ty 4 56 hHeld ?_
              refine ty 5 57 hHeld ?_
              refine ty 6 58 hHeld ?_
              refine ty 7 59 hHeld ?_
              refine wpAnyH_ready (rs := [8]) (by kernel_rfl) (by simp) (AllReadyH.cons rfl (fun K hK => ?_) AllReadyH.nil)
              go_simp
              (go_at_call 15; refine (HNo.out _ (Gr.refl _).drew).mono ?_; rintro e wn ⟨p, rfl, hmn, hgn⟩; have hkn := KB.ofGr (S := fun b => b = g s) hgn)
              (try go_wp2_with fail)
              refine hK.out _ _ (by exact ⟨(by (repeat' (first | with_reducible exact KB.refl _ _ | with_reducible refine KB.setc ?_ ?_ | with_reducible refine KB.alloc ?_ | with_reducible refine KB.drew ?_ | with_reducible refine KB.trans ?_ (by assumption))) <;> (first | (simp; done) | (simp; omega) | omega)), KB.cell (S := fun b => b = g s) (by (repeat' (first | with_reducible exact KB.refl _ _ | with_reducible refine KB.setc ?_ ?_ | with_reducible refine KB.alloc ?_ | with_reducible refine KB.drew ?_ | with_reducible refine KB.trans ?_ (by assumption))) <;> (first | (simp; done) | (simp; omega) | omega)) _ _ _ HSz.out.1 HSz.out.2 qs, KB.cell (S := fun b => b = g s) (by (repeat' (first | with_reducible exact KB.refl _ _ | with_reducible refine KB.setc ?_ ?_ | with_reducible refine KB.alloc ?_ | with_reducible refine KB.drew ?_ | with_reducible refine KB.trans ?_ (by assumption))) <;> (first | (simp; done) | (simp; omega) | omega)) _ _ _ HSz.out.1 HSz.out.2 q5⟩) (fun hHeldN => ?_)
              clear hHeld hK K
              have hHeld := hHeldN
              clear hHeldN
              refine wpAnyH_ready (rs := [9]) (by kernel_rfl) (by simp) (AllReadyH.cons rfl (fun K hK => ?_) AllReadyH.nil)
              go_simp
              (go_at_call 9; refine (HWt.out _ p ((Gr.refl _).drew.trans hgn) hmn).mono ?_; rintro e wn2 ⟨rfl, hgn2⟩; have hkn2 := KB.ofGr (S := fun b => b = g s) hgn2)
              (try go_wp2_with fail)
              refine hK.out _ _ (by exact ⟨(by (repeat' (first | with_reducible exact KB.refl _ _ | with_reducible refine KB.setc ?_ ?_ | with_reducible refine KB.alloc ?_ | with_reducible refine KB.drew ?_ | with_reducible refine KB.trans ?_ (by assumption))) <;> (first | (simp; done) | (simp; omega) | omega)), KB.cell (S := fun b => b = g s) (by (repeat' (first | with_reducible exact KB.refl _ _ | with_reducible refine KB.setc ?_ ?_ | with_reducible refine KB.alloc ?_ | with_reducible refine KB.drew ?_ | with_reducible refine KB.trans ?_ (by assumption))) <;> (first | (simp; done) | (simp; omega) | omega)) _ _ _ HSz.out.1 HSz.out.2 qs, KB.cell (S := fun b => b = g s) (by (repeat' (first | with_reducible exact KB.refl _ _ | with_reducible refine KB.setc ?_ ?_ | with_reducible refine KB.alloc ?_ | with_reducible refine KB.drew ?_ | with_reducible refine KB.trans ?_ (by assumption))) <;> (first | (simp; done) | (simp; omega) | omega)) _ _ _ HSz.out.1 HSz.out.2 q5⟩) (fun hHeldN => ?_)
              clear hHeld hK K
              have hHeld := hHeldN
              clear hHeldN
              refine ty 10 62 hHeld ?_
              refine ty 11 63 hHeld ?_
              refine ty 12 64 hHeld ?_
              refine ty 13 65 hHeld ?_
              refine ty 14 66 hHeld ?_
              refine ty 15 67 hHeld ?_
              refine ty 16 68 hHeld ?_
              refine ty 17 69 hHeld ?_
              refine ty 18 70 hHeld ?_
              refine ty 19 71 hHeld ?_
              refine ty 20 72 hHeld ?_
              refine ty 21 73 hHeld ?_
              refine ty 22 74 hHeld ?_
              refine ty 23 75 hHeld ?_
              refine wpAnyH_ready (rs := [24]) (by kernel_rfl) (by simp) (AllReadyH.cons rfl (fun K hK => ?_) AllReadyH.nil)
              go_simp
              (go_at_call 15; refine (HNo.out _ (((Gr.refl _).drew.trans hgn).trans hgn2)).mono ?_; rintro e wn3 ⟨p2, rfl, hmn3, hgn3⟩; have hkn3 := KB.ofGr (S := fun b => b = g s) hgn3)
              (try go_wp2_with fail)
              refine hK.out _ _ (by exact ⟨(by (repeat' (first | with_reducible exact KB.refl _ _ | with_reducible refine KB.setc ?_ ?_ | with_reducible refine KB.alloc ?_ | with_reducible refine KB.drew ?_ | with_reducible refine KB.trans ?_ (by assumption))) <;> (first | (simp; done) | (simp; omega) | omega)), KB.cell (S := fun b => b = g s) (by (repeat' (first | with_reducible exact KB.refl _ _ | with_reducible refine KB.setc ?_ ?_ | with_reducible refine KB.alloc ?_ | with_reducible refine KB.drew ?_ | with_reducible refine KB.trans ?_ (by assumption))) <;> (first | (simp; done) | (simp; omega) | omega)) _ _ _ HSz.out.1 HSz.out.2 qs, KB.cell (S := fun b => b = g s) (by (repeat' (first | with_reducible exact KB.refl _ _ | with_reducible refine KB.setc ?_ ?_ | with_reducible refine KB.alloc ?_ | with_reducible refine KB.drew ?_ | with_reducible refine KB.trans ?_ (by assumption))) <;> (first | (simp; done) | (simp; omega) | omega)) _ _ _ HSz.out.1 HSz.out.2 q5⟩) (fun hHeldN => ?_)
              clear hHeld hK K
              have hHeld := hHeldN
              clear hHeldN
              refine wpAnyH_ready (rs := [25]) (by kernel_rfl) (by simp) (AllReadyH.cons rfl (fun K hK => ?_) AllReadyH.nil)
              go_simp
              refine hK.out _ _ (by exact ⟨(by (repeat' (first | with_reducible exact KB.refl _ _ | with_reducible refine KB.setc ?_ ?_ | with_reducible refine KB.alloc ?_ | with_reducible refine KB.drew ?_ | with_reducible refine KB.trans ?_ (by assumption))) <;> (first | (simp; done) | (simp; omega) | omega)), KB.cell (S := fun b => b = g s) (by (repeat' (first | with_reducible exact KB.refl _ _ | with_reducible refine KB.setc ?_ ?_ | with_reducible refine KB.alloc ?_ | with_reducible refine KB.drew ?_ | with_reducible refine KB.trans ?_ (by assumption))) <;> (first | (simp; done) | (simp; omega) | omega)) _ _ _ HSz.out.1 HSz.out.2 qs, KB.cell (S := fun b => b = g s) (by (repeat' (first | with_reducible exact KB.refl _ _ | with_reducible refine KB.setc ?_ ?_ | with_reducible refine KB.alloc ?_ | with_reducible refine KB.drew ?_ | with_reducible refine KB.trans ?_ (by assumption))) <;> (first | (simp; done) | (simp; omega) | omega)) _ _ _ HSz.out.1 HSz.out.2 q5⟩) (fun hHeldN => ?_)
              clear hHeld hK K
              have hHeld := hHeldN
              clear hHeldN
              refine wpAnyH_ready (rs := [26]) (by kernel_rfl) (by simp) (AllReadyH.cons rfl (fun K hK => ?_) AllReadyH.nil)
              go_simp
              (go_at_call 7; refine (HSd.out _ wn3.heap.size p2 ((((Gr.refl _).drew.trans hgn).trans hgn2).trans hgn3).alloc (ntsZ rfl hmn3)).mono ?_; rintro e w2 ⟨rfl, hp2, hg2⟩; have hkn4 := KB.ofGB (S := fun b => b = g s) hg2 rfl)
              (try go_wp2_with fail)
              refine hK.out _ _ (by exact ⟨(by (repeat' (first | with_reducible exact KB.refl _ _ | with_reducible refine KB.setc ?_ ?_ | with_reducible refine KB.alloc ?_ | with_reducible refine KB.drew ?_ | with_reducible refine KB.trans ?_ (by assumption))) <;> (first | (simp; done) | (simp; omega) | omega)), KB.cell (S := fun b => b = g s) (by (repeat' (first | with_reducible exact KB.refl _ _ | with_reducible refine KB.setc ?_ ?_ | with_reducible refine KB.alloc ?_ | with_reducible refine KB.drew ?_ | with_reducible refine KB.trans ?_ (by assumption))) <;> (first | (simp; done) | (simp; omega) | omega)) _ _ _ HSz.out.1 HSz.out.2 qs, KB.cell (S := fun b => b = g s) (by (repeat' (first | with_reducible exact KB.refl _ _ | with_reducible refine KB.setc ?_ ?_ | with_reducible refine KB.alloc ?_ | with_reducible refine KB.drew ?_ | with_reducible refine KB.trans ?_ (by assumption))) <;> (first | (simp; done) | (simp; omega) | omega)) _ _ _ HSz.out.1 HSz.out.2 q5⟩) (fun hHeldN => ?_)
              clear hHeld hK K
              have hHeld := hHeldN
              clear hHeldN
              have HPf := Lib.hid hp2
              obtain ⟨se, hse2⟩ : ∃ x, x = Lk.sendE CX (l s) ((i : Int) + 1) [nt s k] := ⟨_, rfl⟩
              rw [← hse2]
              have HSe := Lib.hid hse2
              clear hse2
              by_cases hz : se = 0
              · skip
                subst hz
                refine ty 27 79 hHeld ?_
                refine ty 28 80 hHeld ?_
                refine wpAnyH_done (by kernel_rfl) ?_ _
                clear hHeld hmn hgn hgn2 hkn hkn2 hmn3 hgn3 hkn3 hp2 hg2 hkn4 q5 qs ql x2
                go_upto_region 16 with fail
                have c0 : w2.cell? ⟨gp, 6 + s * 8 + k, none⟩ = some (.int .i64 (P (s * 8 + k))) := by rw [Nat.add_assoc]; exact HPf.out.pc.cp (s * 8 + k) (by omega)
                have cf0 := HPf.out.pc.fz (6 + s * 8 + k) (by omega)
                have cl := HPf.out.pc.lt
                have hle := HT.out.le hs hk
                have hpi := HV.out (s * 8 + k) (by omega)
                have hwp : wrap64 (P (s * 8 + k) + 1) = P (s * 8 + k) + 1 := wrap_small (by omega) (by have := HLen.out; omega)
                have HHp : Hid (P (s * 8 + k) ≤ i) := hpi
                clear hle hpi
                go_region
                have HPd : Hid (Pa Z w (w2.setCell ⟨gp, 6 + s * 8 + k, none⟩ (.int .i64 (P (s * 8 + k) + 1))).drew gp g (upd l s (Lk.sendS CX (l s) ((i : Int) + 1) [nt s k])) vl ((i : Int) + 1) (upd P (s * 8 + k) (P (s * 8 + k) + 1)) H ad2 cap2 D) := by
                  have := HPf.out.setP (k := s * 8 + k) (by omega) (P (s * 8 + k) + 1)
                  rw [← Nat.add_assoc] at this
                  exact this.up (Gr.refl _).drew
                clear c0 cf0 cl hwp
                go_wp2_with fail
                go_meet
                exact ⟨Z, g, upd l s (Lk.sendS CX (l s) ((i : Int) + 1) [nt s k]), vl, upd P (s * 8 + k) (P (s * 8 + k) + 1), H, ad2, cap2, D, (by rw [HCi.out]; exact HPd.out), HT.out.send hs hk HWf.out HSe.out.symm, (fun q hq => by (by_cases e : q = s * 8 + k); (subst e; rw [upd_same]; have := HHp.out; omega); (rw [upd_other _ _ e]; have := HV.out q hq; omega)), (by have := HDl.out; omega)⟩
              · skip
                have hzb : (se == 0) = false := by rw [beq_eq_false_iff_ne]; exact hz
                have HSs : Hid (upd l s (Lk.sendS CX (l s) ((i : Int) + 1) [nt s k]) = l) := by
                  show _ = _
                  unfold Lk.sendS
                  rw [if_neg (by rw [← HSe.out]; exact hz)]
                  exact upd_id l s
                clear hz
                refine ty 27 79 hHeld ?_
                refine ty 28 80 hHeld ?_
                refine wpAnyH_done (by kernel_rfl) ?_ _
                clear hHeld hmn hgn hgn2 hkn hkn2 hmn3 hgn3 hkn3 hp2 hg2 hkn4 q5 qs ql x2
                go_wp2_with fail
                go_meet
                exact ⟨Z, g, l, vl, P, H, ad2, cap2, D, (by rw [HCi.out]; exact (by rw [HSs.out] at HPf; exact HPf.out)), HT.out, (fun q hq => by have := HV.out q hq; omega), (by have := HDl.out; omega)⟩
          by_cases p1 : vk = 1
          · skip
            as_aux_lemma =>
              subst p1
              have HTk : Hid (∀ w', Gr wA w' → Calls Try.prog 12 #[.pointer (some ⟨g s, 0, none⟩), .int .i64 ((i : Int) + 1)] w' fun e w2 => TkF Z (Lk.tickF CX (l s) ((i : Int) + 1)) w' e w2 ∧ Pa Z w w2 gp g (upd l s (Lk.tickS CX (l s) ((i : Int) + 1))) vl ((i : Int) + 1) P H ad2 cap2 D ∧ GB (g s) w' w2) := fun w' k => a_tick (HPA.out.up k) hs HEp.out ((i : Int) + 1)
              have HTl := Lib.hid (tick_len (l s) ((i : Int) + 1))
              obtain ⟨i0, hi0, hz0, hz1, hz2⟩ := info_parts infoFrame
              have k4 := HPA.out.pc.cf
              have ks := HPA.out.pc.ck s hs
              have k5 := HPA.out.pc.cn
              have kl := HPA.out.pc.lt
              clear x0 x1 x2 x3 xl
              go_wp2_with fail
              refine beginL 19 (fun w' => w'.cell? ⟨gp, 4, none⟩ = some (.slice ad2 D.length cap2) ∧ w'.cell? ⟨gp, s, none⟩ = some (.pointer (some ⟨g s, 0, none⟩)) ∧ w'.cell? ⟨gp, 5, none⟩ = some (.int .i64 ((i : Int) + 1))) (by kernel_rfl) (by first | with_reducible exact hHeld | exact ⟨m4, ms, m5⟩ | exact ⟨n4, ns, n5⟩ | exact ⟨Gr.keep (by repeat(first|exact Gr.r _|refine Gr.a ?_|refine Gr.d ?_|refine Gr.t ?_ (by assumption))) k4, Gr.keep (by repeat(first|exact Gr.r _|refine Gr.a ?_|refine Gr.d ?_|refine Gr.t ?_ (by assumption))) ks, Gr.keep (by repeat(first|exact Gr.r _|refine Gr.a ?_|refine Gr.d ?_|refine Gr.t ?_ (by assumption))) k5⟩) (fun hHeld => ?_)
              refine takeW 0 96 (v := ?_) rfl rfl (by decide) (by kernel_rfl) (by kernel_rfl) (by kernel_rfl) (fun _ _ _ h => h) (by rfl) ?_ (fun _ => hHeld) ?_
              rotate_left
              · (intro w; (try intro hSw); (try dsimp only at hSw); go_simp; try with_reducible rfl)
              simp only [Act.put, List.setIfInBounds_toArray, List.set_cons_zero, List.set_cons_succ]
              refine takeW 1 97 (v := ?_) rfl rfl (by decide) (by kernel_rfl) (by kernel_rfl) (by kernel_rfl) (fun _ _ _ h => h) (by rfl) ?_ (fun _ => hHeld) ?_
              rotate_left
              · (intro w; (try intro hSw); (try dsimp only at hSw); go_simp; try with_reducible rfl)
              simp only [Act.put, List.setIfInBounds_toArray, List.set_cons_zero, List.set_cons_succ]
              refine takeW 2 98 (v := ?_) rfl rfl (by decide) (by kernel_rfl) (by kernel_rfl) (by kernel_rfl) (fun _ _ _ h => h) (by rfl) ?_ (fun _ => hHeld) ?_
              rotate_left
              · (intro w; (try intro hSw); (try dsimp only at hSw); go_simp; try with_reducible rfl)
              simp only [Act.put, List.setIfInBounds_toArray, List.set_cons_zero, List.set_cons_succ]
              refine takeW 3 99 (v := ?_) rfl rfl (by decide) (by kernel_rfl) (by kernel_rfl) (by kernel_rfl) (fun _ _ _ h => h) (by rfl) ?_ (fun _ => hHeld) ?_
              rotate_left
              · (intro w; (try intro hSw); (try dsimp only at hSw); go_simp; try with_reducible rfl)
              simp only [Act.put, List.setIfInBounds_toArray, List.set_cons_zero, List.set_cons_succ]
              refine takeW 5 101 (v := ?_) rfl rfl (by decide) (by kernel_rfl) (by kernel_rfl) (by kernel_rfl) (fun _ _ _ h => h) (by rfl) ?_ (fun _ => hHeld) ?_
              rotate_left
              · (intro w; (try intro hSw); (try dsimp only at hSw); go_simp; try with_reducible rfl)
              simp only [Act.put, List.setIfInBounds_toArray, List.set_cons_zero, List.set_cons_succ]
              refine takeW 6 102 (v := ?_) rfl rfl (by decide) (by kernel_rfl) (by kernel_rfl) (by kernel_rfl) (fun _ _ _ h => h) (by rfl) ?_ (fun _ => hHeld) ?_
              rotate_left
              · (intro w; (try intro hSw); (try dsimp only at hSw); go_simp; try with_reducible rfl)
              simp only [Act.put, List.setIfInBounds_toArray, List.set_cons_zero, List.set_cons_succ]
              refine takeW 7 103 (v := ?_) rfl rfl (by decide) (by kernel_rfl) (by kernel_rfl) (by kernel_rfl) (fun _ _ _ h => h) (by rfl) ?_ (fun _ => hHeld) ?_
              rotate_left
              · (intro w; (try intro hSw); (try dsimp only at hSw); go_simp; try with_reducible rfl)
              simp only [Act.put, List.setIfInBounds_toArray, List.set_cons_zero, List.set_cons_succ]
              refine takeW 8 104 (v := ?_) rfl rfl (by decide) (by kernel_rfl) (by kernel_rfl) (by kernel_rfl) (fun _ _ _ h => h) (by rfl) ?_ (fun _ => hHeld) ?_
              rotate_left
              · (intro w; (try intro hSw); (try dsimp only at hSw); go_simp; try with_reducible rfl)
              simp only [Act.put, List.setIfInBounds_toArray, List.set_cons_zero, List.set_cons_succ]
              refine takeW 9 105 (v := ?_) rfl rfl (by decide) (by kernel_rfl) (by kernel_rfl) (by kernel_rfl) (fun _ _ _ h => h) (by rfl) ?_ (fun _ => hHeld) ?_
              rotate_left
              · (intro w; (try intro hSw); (try dsimp only at hSw); go_simp; try with_reducible rfl)
              simp only [Act.put, List.setIfInBounds_toArray, List.set_cons_zero, List.set_cons_succ]
              refine takeW 11 107 (v := ?_) rfl rfl (by decide) (by kernel_rfl) (by kernel_rfl) (by kernel_rfl) (fun _ _ _ h => h) (by rfl) ?_ (fun _ => hHeld) ?_
              rotate_left
              · (intro w; (try intro hSw); (try dsimp only at hSw); go_simp; try with_reducible rfl)
              simp only [Act.put, List.setIfInBounds_toArray, List.set_cons_zero, List.set_cons_succ]
              refine takeW 12 108 (v := ?_) rfl rfl (by decide) (by kernel_rfl) (by kernel_rfl) (by kernel_rfl) (fun _ _ _ h => h) (by rfl) ?_ (fun _ => hHeld) ?_
              rotate_left
              · (intro w; (try intro hSw); (try dsimp only at hSw); go_simp; try with_reducible rfl)
              simp only [Act.put, List.setIfInBounds_toArray, List.set_cons_zero, List.set_cons_succ]
              refine takeW 13 109 (v := ?_) rfl rfl (by decide) (by kernel_rfl) (by kernel_rfl) (by kernel_rfl) (fun _ _ _ h => h) (by rfl) ?_ (fun _ => hHeld) ?_
              rotate_left
              · (intro w; (try intro hSw); (try dsimp only at hSw); go_simp; try with_reducible rfl)
              simp only [Act.put, List.setIfInBounds_toArray, List.set_cons_zero, List.set_cons_succ]
              refine takeS 4 100 (v := ?_) rfl rfl (by decide) (by kernel_rfl) (by kernel_rfl) (by kernel_rfl) (by kernel_rfl) (by kernel_rfl) (fun _ _ _ h => h) (by rfl) ?_ hHeld ?_
              rotate_left
              · (intro w; (try intro hSw); (try dsimp only at hSw); go_simp; try with_reducible rfl)
              simp only [Act.put, List.setIfInBounds_toArray, List.set_cons_zero, List.set_cons_succ]
              refine takeS 10 106 (v := ?_) rfl rfl (by decide) (by kernel_rfl) (by kernel_rfl) (by kernel_rfl) (by kernel_rfl) (by kernel_rfl) (fun _ _ _ h => h) (by rfl) ?_ hHeld ?_
              rotate_left
              · (intro w; (try intro hSw); (try dsimp only at hSw); go_simp; try with_reducible rfl)
              simp only [Act.put, List.setIfInBounds_toArray, List.set_cons_zero, List.set_cons_succ]
              refine takeS 14 110 (v := ?_) rfl rfl (by decide) (by kernel_rfl) (by kernel_rfl) (by kernel_rfl) (by kernel_rfl) (by kernel_rfl) (fun _ _ _ h => h) (by rfl) ?_ hHeld ?_
              rotate_left
              · (intro w; (try intro hSw); (try dsimp only at hSw); go_simp; try with_reducible rfl)
              simp only [Act.put, List.setIfInBounds_toArray, List.set_cons_zero, List.set_cons_succ]
              refine stepC 15 (by kernel_rfl) rfl (fun K hK => ?_)
              go_simp
              (go_at_call 12; refine (HTk.out _ (Gr.refl _).drew).mono ?_; rintro e w4 ⟨⟨aT, cT, T, rfl, hfT, hTe⟩, hp4, hg4⟩; have n4 := hp4.pc.cf; have ns := hp4.pc.ck s hs; have n5 := hp4.pc.cn; have hTl : T.length ≤ 12 := by rw [← frs_len, hTe]; exact HTl.out)
              (try go_wp2_with fail)
              refine hK.out _ _ (by first | with_reducible exact hHeld | exact ⟨m4, ms, m5⟩ | exact ⟨n4, ns, n5⟩ | exact ⟨Gr.keep (by repeat(first|exact Gr.r _|refine Gr.a ?_|refine Gr.d ?_|refine Gr.t ?_ (by assumption))) k4, Gr.keep (by repeat(first|exact Gr.r _|refine Gr.a ?_|refine Gr.d ?_|refine Gr.t ?_ (by assumption))) ks, Gr.keep (by repeat(first|exact Gr.r _|refine Gr.a ?_|refine Gr.d ?_|refine Gr.t ?_ (by assumption))) k5⟩) (fun hHeldN => ?_)
              clear hHeld hK K
              have hHeld := hHeldN
              clear hHeldN
              obtain ⟨rowT, hcT⟩ := fxs_row hfT
              refine stepC 16 (by kernel_rfl) rfl (fun K hK => ?_)
              (refine step_append_at rfl (.tmp 100) (.tmp 111) 48 rfl w.heap.size 28 i0 _ 12 120 Try.underlying48 hi0 hz0 hz1 hz2 rfl (by decide) (.slice ad2 D.length cap2) D.length (D.flatMap fC) rfl hp4.pl.fx.own fC_len T aT cT rfl hcT rowT (f_one T) (by have := HDl.out; unfold maxLen; omega) (by have := HDl.out; omega) hp4.pl.gr.size ?_; intro v6 w6 ho6 hg6 hv6; obtain ⟨Y, ad6, cap6, hv6e, hpf, hpc6⟩ := pa_row (G := D ++ T) hp4.pl hp4.pc (fun x hx => (List.mem_append.1 hx).elim (fun h => hp4.pl.fx.nt x h) (fun h => hfT.nt x h)) (by rw [List.length_append, List.flatMap_append]; exact ho6) hg6 (hv6.elim Or.inl (fun h => Or.inr (fun b e => by rw [h] at e; cases e; omega))); subst hv6e; have m4 := hpc6.cf; have ms := hpc6.ck s hs; have m5 := hpc6.cn; have mf4 := hpc6.fz 4 (by omega); have ml := hpc6.lt)
              refine hK.out (Act.put _ (some 112) (.slice ad6 (D ++ T).length cap6)) _ (by first | with_reducible exact hHeld | exact ⟨m4, ms, m5⟩ | exact ⟨n4, ns, n5⟩ | exact ⟨Gr.keep (by repeat(first|exact Gr.r _|refine Gr.a ?_|refine Gr.d ?_|refine Gr.t ?_ (by assumption))) k4, Gr.keep (by repeat(first|exact Gr.r _|refine Gr.a ?_|refine Gr.d ?_|refine Gr.t ?_ (by assumption))) ks, Gr.keep (by repeat(first|exact Gr.r _|refine Gr.a ?_|refine Gr.d ?_|refine Gr.t ?_ (by assumption))) k5⟩) (fun hHeldN => ?_)
              clear hHeld hK K
              have hHeld := hHeldN
              clear hHeldN
              simp only [Act.put, List.setIfInBounds_toArray, List.set_cons_zero, List.set_cons_succ]
              refine takeW 17 113 (v := ?_) rfl rfl (by decide) (by kernel_rfl) (by kernel_rfl) (by kernel_rfl) (fun _ _ _ h => h) (by rfl) ?_ (fun _ => hHeld) ?_
              rotate_left
              · (intro w; (try intro hSw); (try dsimp only at hSw); go_simp; try with_reducible rfl)
              simp only [Act.put, List.setIfInBounds_toArray, List.set_cons_zero, List.set_cons_succ]
              refine takeW 18 114 (v := ?_) rfl rfl (by decide) (by kernel_rfl) (by kernel_rfl) (by kernel_rfl) (fun _ _ _ h => h) (by rfl) ?_ (fun _ => hHeld) ?_
              rotate_left
              · (intro w; (try intro hSw); (try dsimp only at hSw); go_simp; try with_reducible rfl)
              simp only [Act.put, List.setIfInBounds_toArray, List.set_cons_zero, List.set_cons_succ]
              refine stepS (by kernel_rfl) rfl (by kernel_rfl) (fun K hK => ?_)
              go_simp
              refine hK.out _ _ ?_
              clear hHeld hK K
              refine doneL (by kernel_rfl) ?_ _
              simp only [List.length_append] at hpf
              have HPg := Lib.hid hpf
              have HTe := Lib.hid hTe
              have HTm := Lib.hid hTl
              clear hpf hTe hp4 hg4 hfT hpc6 ho6 hg6 hv6 n4 ns n5 m4 ms m5 mf4 ml k4 ks k5 kl HTk
              go_wp2_with fail
              go_meet
              exact ⟨Y, g, upd l s (Lk.tickS CX (l s) ((i : Int) + 1)), vl, P, H, ad6, cap6, (D ++ T), (by rw [HCi.out]; exact HPg.out), (by rw [frs_app, HTe.out]; exact HT.out.tick hs ((i : Int) + 1) : On _ (frs (D ++ T)) _ _), (fun q hq => by have := HV.out q hq; omega), (by rw [List.length_append]; have := HDl.out; have := HTm.out; omega)⟩
          by_cases p2 : vk = 2
          · skip
            subst p2
            by_cases h0 : (0 : Int) ≤ vw
            · skip
              obtain ⟨j, rfl⟩ : ∃ j : Nat, vw = (j : Int) := ⟨vw.toNat, by omega⟩
              clear h0
              by_cases h1 : j < D.length
              · skip
                have hw1 : (j : Int) < (D.length : Int) := by omega
                have hj0 : (0 : Int) ≤ (j : Int) := by omega
                obtain ⟨_, _, e5, _, _, hit, _⟩ := HPA.out.pl.fx.at
                cases e5
                have HMem : Hid (D[j].fr ∈ frs D) := List.mem_map.2 ⟨_, List.getElem_mem h1, rfl⟩
                obtain ⟨sF, tF, hsF, hstF, hfo⟩ := HTok.out _ HMem.out
                have HFo := Lib.hid hfo
                obtain ⟨b, off2, rfl, hbl2, c0, c1, c2, c3, c4, c5, c6, c7, c8, c9, c10, c11⟩ := FrsRow.at hit.row j h1
                have hmn := hit.nt D[j] (List.getElem_mem h1)
                clear hfo hit
                have HPt : Hid (∀ w', Gr wA w' → Calls Try.prog 16 #[.pointer (some ⟨gp, 0, none⟩), D[j].v] w' fun e w2 => PtkR Z w w' gp g l vl ((i : Int) + 1) P H (some ⟨b, off2, none⟩) cap2 D sF tF D[j].m.x (Lk.takeR CX (l tF) D[j].fr ((i : Int) + 1)) e w2) := fun w' k => ptake_any (HPA.out.up k) hsF (by omega) (HEq.out tF (by omega)) D[j] (hmn.gr k) HFo.out.1 HFo.out.2.1 (fun h => HFo.out.note h)
                have k4 := HPA.out.pc.cf
                have kl := HPA.out.pc.lt
                have HBn : Hid (¬ (b = g tF ∨ b = gp)) := by
                  have h5 := HPA.out.pl.rb b rfl
                  exact fun h => h.elim (fun e => h5.2.2 tF (by omega) e.symm) (fun e => h5.2.1 e)
                have HVn : Hid (¬ (gv = g tF ∨ gv = gp)) := fun h => h.elim (fun e => HGv.out.1 tF (by omega) e.symm) (fun e => HGv.out.2 e)
                clear hmn x0 x1 x2
                generalize D[j] = xf at *
                obtain ⟨ff, ft, fe, fs, fa, fc, ⟨⟨k5, r5, n5, L5, s5, y5⟩, ay, cy⟩⟩ := xf
                dsimp only [Mf.v] at *
                go_wp2_with fail
                refine wp_region_held_drew (S := (fun w' => w'.cell? ⟨gp, 4, none⟩ = some (.slice (some ⟨b, off2, none⟩) D.length cap2) ∧ w'.cell? ⟨gv, 3, none⟩ = some (.int .i64 (j : Int)) ∧ w'.cell? ⟨b, off2 + j * 12, none⟩ = some (.int .i64 ff) ∧ w'.cell? ⟨b, off2 + j * 12 + 1, none⟩ = some (.int .i64 ft) ∧ w'.cell? ⟨b, off2 + j * 12 + 2, none⟩ = some (.int .i64 fe) ∧ w'.cell? ⟨b, off2 + j * 12 + 3, none⟩ = some (.int .i64 fs) ∧ w'.cell? ⟨b, off2 + j * 12 + 4, none⟩ = some (.int .i64 fa) ∧ w'.cell? ⟨b, off2 + j * 12 + 5, none⟩ = some (.int .i64 fc) ∧ w'.cell? ⟨b, off2 + j * 12 + 6, none⟩ = some (.int .i64 k5) ∧ w'.cell? ⟨b, off2 + j * 12 + 7, none⟩ = some (.int .i64 r5) ∧ w'.cell? ⟨b, off2 + j * 12 + 8, none⟩ = some (.int .i64 n5) ∧ w'.cell? ⟨b, off2 + j * 12 + 9, none⟩ = some (.slice ay L5.length cy) ∧ w'.cell? ⟨b, off2 + j * 12 + 10, none⟩ = some (.string s5) ∧ w'.cell? ⟨b, off2 + j * 12 + 11, none⟩ = some (.int .i64 y5))) (by kernel_rfl) (by first | with_reducible exact hHeld | exact hS2 | exact hold_tk (S := fun b => b = g tF ∨ b = gp) (KB.ofGr (by repeat(first|exact Gr.r _|refine Gr.a ?_|refine Gr.d ?_|refine Gr.t ?_ (by assumption)))) xl hbl2 HVn.out HBn.out (Gr.keep (by repeat(first|exact Gr.r _|refine Gr.a ?_|refine Gr.d ?_|refine Gr.t ?_ (by assumption))) k4) x3 c0 c1 c2 c3 c4 c5 c6 c7 c8 c9 c10 c11) (fun hHeld => ?_)
                refine ty 0 117 hHeld ?_
                refine ty 1 118 hHeld ?_
                refine ty 2 119 hHeld ?_
                refine ty 3 120 hHeld ?_
                refine ty 4 121 hHeld ?_
                refine ty 5 122 hHeld ?_
                refine ty 6 123 hHeld ?_
                refine ty 7 124 hHeld ?_
                refine ty 8 125 hHeld ?_
                refine ty 9 126 hHeld ?_
                refine ty 10 127 hHeld ?_
                refine ty 11 128 hHeld ?_
                refine ty 12 129 hHeld ?_
                refine ty 13 130 hHeld ?_
                refine ty 14 131 hHeld ?_
                refine ty 15 132 hHeld ?_
                refine ty 16 133 hHeld ?_
                refine ty 17 134 hHeld ?_
                refine ty 18 135 hHeld ?_
                refine ty 19 136 hHeld ?_
                refine ty 20 137 hHeld ?_
                refine ty 21 138 hHeld ?_
                refine ty 22 139 hHeld ?_
                refine wpAnyH_ready (rs := [23]) (by kernel_rfl) (by simp) (AllReadyH.cons rfl (fun K hK => ?_) AllReadyH.nil)
                go_simp
                (go_at_call 16; refine (HPt.out _ (Gr.refl _).drew).mono ?_; rintro e wn hp; obtain ⟨rfl, H2, hpa2, hkb, hh0, hh1⟩ := hp; have hS2 := hold_tk ((KB.ofGr (Gr.refl wA).drew).trans hkb) xl hbl2 HVn.out HBn.out hpa2.pc.cf x3 c0 c1 c2 c3 c4 c5 c6 c7 c8 c9 c10 c11)
                (try go_wp2_with fail)
                refine hK.out _ _ (by first | with_reducible exact hHeld | exact hS2 | exact hold_tk (S := fun b => b = g tF ∨ b = gp) (KB.ofGr (by repeat(first|exact Gr.r _|refine Gr.a ?_|refine Gr.d ?_|refine Gr.t ?_ (by assumption)))) xl hbl2 HVn.out HBn.out (Gr.keep (by repeat(first|exact Gr.r _|refine Gr.a ?_|refine Gr.d ?_|refine Gr.t ?_ (by assumption))) k4) x3 c0 c1 c2 c3 c4 c5 c6 c7 c8 c9 c10 c11) (fun hHeldN => ?_)
                clear hHeld hK K
                have hHeld := hHeldN
                clear hHeldN
                refine ty 24 141 hHeld ?_
                refine ty 25 142 hHeld ?_
                refine wpAnyH_done (by kernel_rfl) ?_ _
                have HPf := Lib.hid hpa2
                have HH0 := Lib.hid hh0
                have HH1 := Lib.hid hh1
                clear hHeld hS2 hpa2 hkb hh0 hh1 k4 kl c0 c1 c2 c3 c4 c5 c6 c7 c8 c9 c10 c11 hbl2 HPt x3
                go_wp2_with fail
                go_meet
                exact ⟨Z, g, upd l tF (Lk.takeR CX (l tF) (Mf.fr ⟨ff, ft, fe, fs, fa, fc, ⟨⟨k5, r5, n5, L5, s5, y5⟩, ay, cy⟩⟩) ((i : Int) + 1)).2.2, vl, P, H2, _, _, D, (by rw [HCi.out]; exact HPf.out), HT.out.take hstF HMem.out HFo.out.1 HH0.out HH1.out HPm.out, (fun q hq => by have := HV.out q hq; omega), (by have := HDl.out; omega)⟩
              · skip
                have hw1 : ¬ ((j : Int) < (D.length : Int)) := by omega
                have hw2 : decide ((j : Int) < (D.length : Int)) = false := decide_eq_false hw1
                have hw3 : ¬ j < D.length := h1
                have hj0 : (0 : Int) ≤ (j : Int) := by omega
                have k4 := HPA.out.pc.cf
                have kl := HPA.out.pc.lt
                clear x0 x1 x2 h1
                go_wp2_with fail
                refine wp_region_held_drew (S := (fun w' => Gr wA w' ∧ w'.cell? ⟨gv, 3, none⟩ = some (.int .i64 (j : Int)) ∧ w'.cell? ⟨gp, 4, none⟩ = some (.slice ad2 D.length cap2))) (by kernel_rfl) (by exact ⟨(by repeat(first|exact Gr.r _|refine Gr.a ?_|refine Gr.d ?_|refine Gr.t ?_ (by assumption))), Gr.keep (by repeat(first|exact Gr.r _|refine Gr.a ?_|refine Gr.d ?_|refine Gr.t ?_ (by assumption))) x3, Gr.keep (by repeat(first|exact Gr.r _|refine Gr.a ?_|refine Gr.d ?_|refine Gr.t ?_ (by assumption))) k4⟩) (fun hHeld => ?_)
                refine ty 0 117 hHeld ?_
                refine ty 1 118 hHeld ?_
                refine ty 2 119 hHeld ?_
                refine ty 3 120 hHeld ?_
                refine ty 4 121 hHeld ?_
                refine ty 5 122 hHeld ?_
                refine ty 6 123 hHeld ?_
                refine ty 7 124 hHeld ?_
                refine ty 8 125 hHeld ?_
                refine ty 9 126 hHeld ?_
                refine ty 10 127 hHeld ?_
                refine ty 11 128 hHeld ?_
                refine ty 12 129 hHeld ?_
                refine ty 13 130 hHeld ?_
                refine tn 14 131 hHeld ?_
                refine tn 15 132 hHeld ?_
                refine tn 16 133 hHeld ?_
                refine tn 17 134 hHeld ?_
                refine tn 18 135 hHeld ?_
                refine tn 19 136 hHeld ?_
                refine tn 20 137 hHeld ?_
                refine tn 21 138 hHeld ?_
                refine tn 22 139 hHeld ?_
                refine tn 23 140 hHeld ?_
                refine tn 24 141 hHeld ?_
                refine ty 25 142 hHeld ?_
                refine wpAnyH_done (by kernel_rfl) ?_ _
                have HGn := Lib.hid hHeld.1
                clear hHeld
                go_wp2_with fail
                go_meet
                exact ⟨Z, g, l, vl, P, H, _, _, D, (by rw [HCi.out]; exact (HPA.out.up HGn.out)), HT.out, (fun q hq => by have := HV.out q hq; omega), (by have := HDl.out; omega)⟩
            · skip
              have hw0 : ¬ (0 : Int) ≤ vw := h0
              have hw1 : decide ((0 : Int) ≤ vw) = false := decide_eq_false h0
              have hw2 : vw < 0 := by omega
              clear x0 x1 x2
              go_wp2_with fail
              refine wp_region_held_drew (S := (fun w' => Gr wA w' ∧ w'.cell? ⟨gv, 3, none⟩ = some (.int .i64 vw))) (by kernel_rfl) (by exact ⟨(by repeat(first|exact Gr.r _|refine Gr.a ?_|refine Gr.d ?_|refine Gr.t ?_ (by assumption))), Gr.keep (by repeat(first|exact Gr.r _|refine Gr.a ?_|refine Gr.d ?_|refine Gr.t ?_ (by assumption))) x3⟩) (fun hHeld => ?_)
              refine ty 0 117 hHeld ?_
              refine ty 1 118 hHeld ?_
              refine ty 2 119 hHeld ?_
              refine ty 3 120 hHeld ?_
              refine tn 4 121 hHeld ?_
              refine tn 5 122 hHeld ?_
              refine tn 6 123 hHeld ?_
              refine tn 7 124 hHeld ?_
              refine tn 8 125 hHeld ?_
              refine tn 9 126 hHeld ?_
              refine tn 10 127 hHeld ?_
              refine tn 11 128 hHeld ?_
              refine ty 12 129 hHeld ?_
              refine ty 13 130 hHeld ?_
              refine tn 14 131 hHeld ?_
              refine tn 15 132 hHeld ?_
              refine tn 16 133 hHeld ?_
              refine tn 17 134 hHeld ?_
              refine tn 18 135 hHeld ?_
              refine tn 19 136 hHeld ?_
              refine tn 20 137 hHeld ?_
              refine tn 21 138 hHeld ?_
              refine tn 22 139 hHeld ?_
              refine tn 23 140 hHeld ?_
              refine tn 24 141 hHeld ?_
              refine ty 25 142 hHeld ?_
              refine wpAnyH_done (by kernel_rfl) ?_ _
              have HGn := Lib.hid hHeld.1
              clear hHeld
              go_wp2_with fail
              go_meet
              exact ⟨Z, g, l, vl, P, H, _, _, D, (by rw [HCi.out]; exact (HPA.out.up HGn.out)), HT.out, (fun q hq => by have := HV.out q hq; omega), (by have := HDl.out; omega)⟩
          by_cases p3 : vk = 3
          · skip
            as_aux_lemma =>
              subst p3
              by_cases h0 : (0 : Int) ≤ vw
              · skip
                obtain ⟨j, rfl⟩ : ∃ j : Nat, vw = (j : Int) := ⟨vw.toNat, by omega⟩
                clear h0
                by_cases h1 : j < D.length
                · skip
                  as_aux_lemma =>
                    have hw1 : (j : Int) < (D.length : Int) := by omega
                    have hj0 : (0 : Int) ≤ (j : Int) := by omega
                    have k4 := HPA.out.pc.cf
                    have kl := HPA.out.pc.lt
                    clear x0 x1 x2
                    go_wp2_with fail
                    refine wp_region_held_drew (S := (fun w' => Gr wA w' ∧ w'.cell? ⟨gv, 3, none⟩ = some (.int .i64 (j : Int)) ∧ w'.cell? ⟨gp, 4, none⟩ = some (.slice ad2 D.length cap2))) (by kernel_rfl) (by exact ⟨(by repeat(first|exact Gr.r _|refine Gr.a ?_|refine Gr.d ?_|refine Gr.t ?_ (by assumption))), Gr.keep (by repeat(first|exact Gr.r _|refine Gr.a ?_|refine Gr.d ?_|refine Gr.t ?_ (by assumption))) x3, Gr.keep (by repeat(first|exact Gr.r _|refine Gr.a ?_|refine Gr.d ?_|refine Gr.t ?_ (by assumption))) k4⟩) (fun hHeld => ?_)
                    refine ty 0 145 hHeld ?_
                    refine ty 1 146 hHeld ?_
                    refine ty 2 147 hHeld ?_
                    refine ty 3 148 hHeld ?_
                    refine ty 4 149 hHeld ?_
                    refine ty 5 150 hHeld ?_
                    refine ty 6 151 hHeld ?_
                    refine ty 7 152 hHeld ?_
                    refine ty 8 153 hHeld ?_
                    refine ty 9 154 hHeld ?_
                    refine ty 10 155 hHeld ?_
                    refine ty 11 156 hHeld ?_
                    refine ty 12 157 hHeld ?_
                    refine wpAnyH_done (by kernel_rfl) ?_ _
                    obtain ⟨i0, hi0, hz0, hz1, hz2⟩ := info_parts infoFrame
                    clear hHeld
                    have hcap : D.length ≤ cap2 := fxs_cap HPA.out.pl.fx
                    have hlow : ∀ W, (Instr.sliceAt 48 (.slice ad2 D.length cap2) none (some (.int .i64 (j : Int))) none).run Try.prog W = .ok (.slice ad2 j cap2) W := fun W => slice_lowF ad2 D.length cap2 j (by omega) hcap W
                    have hhigh : ∀ W, (Instr.sliceAt 48 (.slice ad2 D.length cap2) (some (.int .i64 ((j : Int) + 1))) none none).run Try.prog W = .ok (.slice (highF ad2 cap2 (j + 1)) (D.length - (j + 1)) (cap2 - (j + 1))) W := fun W => slice_highF ad2 D.length cap2 (j + 1) (by omega) W
                    have HWj := Lib.hid (wrap_j h1 HDl.out)
                    obtain ⟨rowD, hcD⟩ := fxs_row HPA.out.pl.fx
                    have HRo := Lib.hid rowD
                    have HCo := Lib.hid hcD
                    clear rowD hcD
                    have HCh : Hid (highF ad2 cap2 (j + 1) = none → cap2 - (j + 1) = 0) := fun e => highF_none HCo.out e
                    go_upto_region 24 with fail
                    refine beginL 21 (fun w' => w'.cell? ⟨gp, 4, none⟩ = some (.slice ad2 D.length cap2) ∧ w'.cell? ⟨gv, 3, none⟩ = some (.int .i64 (j : Int))) (by kernel_rfl) (by first | with_reducible exact hHeld | exact ⟨q4, q3⟩ | exact ⟨o4, o3⟩ | exact ⟨Gr.keep (Gr.refl _).alloc n4, Gr.keep (Gr.refl _).alloc n3⟩ | exact ⟨Gr.keep (by repeat(first|exact Gr.r _|refine Gr.a ?_|refine Gr.d ?_|refine Gr.t ?_ (by assumption))) k4, Gr.keep (by repeat(first|exact Gr.r _|refine Gr.a ?_|refine Gr.d ?_|refine Gr.t ?_ (by assumption))) x3⟩) (fun hHeld => ?_)
                    obtain ⟨W, hW⟩ : ∃ W, W = wA.drew := ⟨_, rfl⟩
                    have gW : Gr wA W := by rw [hW]; exact (Gr.refl _).drew
                    have hWs : W.heap.size = wA.heap.size := by rw [hW]; rfl
                    rw [← hW] at hHeld ⊢
                    clear hW
                    have HpW := Lib.hid (HPA.out.up gW)
                    have n4 := HpW.out.pc.cf
                    have n3 : W.cell? ⟨gv, 3, none⟩ = some (.int .i64 (j : Int)) := Gr.keep gW x3
                    have nl : gv < W.heap.size ∧ gp < W.heap.size := ⟨by omega, HpW.out.pc.lt⟩
                    refine takeW 0 158 (v := ?_) rfl rfl (by decide) (by kernel_rfl) (by kernel_rfl) (by kernel_rfl) (fun _ _ _ h => h) (by rfl) ?_ (fun _ => hHeld) ?_
                    rotate_left
                    · (intro w; (try intro hSw); (try dsimp only at hSw); go_simp; try with_reducible rfl)
                    simp only [Act.put, List.setIfInBounds_toArray, List.set_cons_zero, List.set_cons_succ]
                    refine takeW 2 160 (v := ?_) rfl rfl (by decide) (by kernel_rfl) (by kernel_rfl) (by kernel_rfl) (fun _ _ _ h => h) (by rfl) ?_ (fun _ => hHeld) ?_
                    rotate_left
                    · (intro w; (try intro hSw); (try dsimp only at hSw); go_simp; try with_reducible rfl)
                    simp only [Act.put, List.setIfInBounds_toArray, List.set_cons_zero, List.set_cons_succ]
                    refine takeW 3 161 (v := ?_) rfl rfl (by decide) (by kernel_rfl) (by kernel_rfl) (by kernel_rfl) (fun _ _ _ h => h) (by rfl) ?_ (fun _ => hHeld) ?_
                    rotate_left
                    · (intro w; (try intro hSw); (try dsimp only at hSw); go_simp; try with_reducible rfl)
                    simp only [Act.put, List.setIfInBounds_toArray, List.set_cons_zero, List.set_cons_succ]
                    refine takeW 4 162 (v := ?_) rfl rfl (by decide) (by kernel_rfl) (by kernel_rfl) (by kernel_rfl) (fun _ _ _ h => h) (by rfl) ?_ (fun _ => hHeld) ?_
                    rotate_left
                    · (intro w; (try intro hSw); (try dsimp only at hSw); go_simp; try with_reducible rfl)
                    simp only [Act.put, List.setIfInBounds_toArray, List.set_cons_zero, List.set_cons_succ]
                    refine takeW 6 164 (v := ?_) rfl rfl (by decide) (by kernel_rfl) (by kernel_rfl) (by kernel_rfl) (fun _ _ _ h => h) (by rfl) ?_ (fun _ => hHeld) ?_
                    rotate_left
                    · (intro w; (try intro hSw); (try dsimp only at hSw); go_simp; try with_reducible rfl)
                    simp only [Act.put, List.setIfInBounds_toArray, List.set_cons_zero, List.set_cons_succ]
                    refine takeS 5 163 (v := ?_) rfl rfl (by decide) (by kernel_rfl) (by kernel_rfl) (by kernel_rfl) (by kernel_rfl) (by kernel_rfl) (fun _ _ _ h => h) (by rfl) ?_ hHeld ?_
                    rotate_left
                    · (intro w; (try intro hSw); (try dsimp only at hSw); go_simp; try with_reducible rfl)
                    simp only [Act.put, List.setIfInBounds_toArray, List.set_cons_zero, List.set_cons_succ]
                    refine takeS 7 165 (v := ?_) rfl rfl (by decide) (by kernel_rfl) (by kernel_rfl) (by kernel_rfl) (by kernel_rfl) (by kernel_rfl) (fun _ _ _ h => h) (by rfl) ?_ hHeld ?_
                    rotate_left
                    · (intro w; (try intro hSw); (try dsimp only at hSw); go_simp; try with_reducible rfl)
                    simp only [Act.put, List.setIfInBounds_toArray, List.set_cons_zero, List.set_cons_succ]
                    refine takeW 8 166 (v := ?_) rfl rfl (by decide) (by kernel_rfl) (by kernel_rfl) (by kernel_rfl) (fun _ _ _ h => h) (by rfl) ?_ (fun _ => hHeld) ?_
                    rotate_left
                    · (intro w; (try intro hSw); (try dsimp only at hSw); go_simp; try with_reducible rfl)
                    simp only [Act.put, List.setIfInBounds_toArray, List.set_cons_zero, List.set_cons_succ]
                    refine takeW 10 168 (v := ?_) rfl rfl (by decide) (by kernel_rfl) (by kernel_rfl) (by kernel_rfl) (fun _ _ _ h => h) (by rfl) ?_ (fun _ => hHeld) ?_
                    rotate_left
                    · (intro w; (try intro hSw); (try dsimp only at hSw); go_simp; try with_reducible rfl)
                    simp only [Act.put, List.setIfInBounds_toArray, List.set_cons_zero, List.set_cons_succ]
                    refine takeW 11 169 (v := ?_) rfl rfl (by decide) (by kernel_rfl) (by kernel_rfl) (by kernel_rfl) (fun _ _ _ h => h) (by rfl) ?_ (fun _ => hHeld) ?_
                    rotate_left
                    · (intro w; (try intro hSw); (try dsimp only at hSw); go_simp; try with_reducible rfl)
                    simp only [Act.put, List.setIfInBounds_toArray, List.set_cons_zero, List.set_cons_succ]
                    refine takeW 12 170 (v := ?_) rfl rfl (by decide) (by kernel_rfl) (by kernel_rfl) (by kernel_rfl) (fun _ _ _ h => h) (by rfl) ?_ (fun _ => hHeld) ?_
                    rotate_left
                    · (intro w; (try intro hSw); (try dsimp only at hSw); go_simp; try with_reducible rfl)
                    simp only [Act.put, List.setIfInBounds_toArray, List.set_cons_zero, List.set_cons_succ]
                    refine takeW 14 172 (v := ?_) rfl rfl (by decide) (by kernel_rfl) (by kernel_rfl) (by kernel_rfl) (fun _ _ _ h => h) (by rfl) ?_ (fun _ => hHeld) ?_
                    rotate_left
                    · (intro w; (try intro hSw); (try dsimp only at hSw); go_simp; try with_reducible rfl)
                    simp only [Act.put, List.setIfInBounds_toArray, List.set_cons_zero, List.set_cons_succ]
                    refine takeS 13 171 (v := ?_) rfl rfl (by decide) (by kernel_rfl) (by kernel_rfl) (by kernel_rfl) (by kernel_rfl) (by kernel_rfl) (fun _ _ _ h => h) (by rfl) ?_ hHeld ?_
                    rotate_left
                    · (intro w; (try intro hSw); (try dsimp only at hSw); go_simp; try with_reducible rfl)
                    simp only [Act.put, List.setIfInBounds_toArray, List.set_cons_zero, List.set_cons_succ]
                    refine takeS 15 173 (v := ?_) rfl rfl (by decide) (by kernel_rfl) (by kernel_rfl) (by kernel_rfl) (by kernel_rfl) (by kernel_rfl) (fun _ _ _ h => h) (by rfl) ?_ hHeld ?_
                    rotate_left
                    · (intro w; (try intro hSw); (try dsimp only at hSw); go_simp; try with_reducible rfl)
                    simp only [Act.put, List.setIfInBounds_toArray, List.set_cons_zero, List.set_cons_succ]
                    obtain ⟨hwj, hwj2⟩ := HWj.out
                    refine takeW 16 174 (v := ?_) rfl rfl (by decide) (by kernel_rfl) (by kernel_rfl) (by kernel_rfl) (fun _ _ _ h => h) (by rfl) ?_ (fun _ => hHeld) ?_
                    rotate_left
                    · (intro w; (try intro hSw); (try dsimp only at hSw); go_simp; try with_reducible rfl)
                    simp only [Act.put, List.setIfInBounds_toArray, List.set_cons_zero, List.set_cons_succ]
                    clear hwj hwj2
                    refine takeW 17 175 (v := ?_) rfl rfl (by decide) (by kernel_rfl) (by kernel_rfl) (by kernel_rfl) (fun _ _ _ h => h) (by rfl) ?_ (fun _ => hHeld) ?_
                    rotate_left
                    · (intro w; (try intro hSw); (try dsimp only at hSw); go_simp; try with_reducible rfl)
                    simp only [Act.put, List.setIfInBounds_toArray, List.set_cons_zero, List.set_cons_succ]
                    refine stepC 1 (by kernel_rfl) rfl (fun K hK => ?_)
                    go_simp
                    refine hK.out _ _ (by first | with_reducible exact hHeld | exact ⟨q4, q3⟩ | exact ⟨o4, o3⟩ | exact ⟨Gr.keep (Gr.refl _).alloc n4, Gr.keep (Gr.refl _).alloc n3⟩ | exact ⟨Gr.keep (by repeat(first|exact Gr.r _|refine Gr.a ?_|refine Gr.d ?_|refine Gr.t ?_ (by assumption))) k4, Gr.keep (by repeat(first|exact Gr.r _|refine Gr.a ?_|refine Gr.d ?_|refine Gr.t ?_ (by assumption))) x3⟩) (fun hHeldN => ?_)
                    clear hHeld hK K
                    have hHeld := hHeldN
                    clear hHeldN
                    have hTk : (D.take j).length = j := by rw [List.length_take]; omega
                    have hDr : (D.drop (j + 1)).length = D.length - (j + 1) := List.length_drop
                    refine stepC 9 (by kernel_rfl) rfl (fun K hK => ?_)
                    (refine step_append_at rfl (.tmp 159) (.tmp 166) 48 rfl W.heap.size 28 i0 _ 12 120 Try.underlying48 hi0 hz0 hz1 hz2 rfl (by decide) (.slice (some ⟨wA.heap.size, 0, none⟩) 0 0) 0 [] rfl (own_litD W _ _ _ hWs.symm (Nat.le_refl _)) fC_len (D.take j) ad2 cap2 (by rw [hTk]; rfl) HCo.out (row_take fC_len (HRo.out.gr (gW.trans (Gr.refl W).alloc.drew)) j (by omega)) (f_one _) (by have := HDl.out; unfold maxLen; omega) (by have := HDl.out; omega) ((Gr.refl W).alloc.drew).size ?_; intro v5 w5 ho5 hg5 _; have g5 : Gr W w5 := (Gr.refl W).alloc.drew.grown hg5 (fun b e => by simp [Value.ownBlock] at e; omega); rw [Nat.zero_add, List.nil_append] at ho5; obtain ⟨ad5, cap5, e5⟩ := own_sliceF ho5; subst e5; have o4 := Gr.keep g5 n4; have o3 := Gr.keep g5 n3)
                    refine hK.out (Act.put _ (some 167) (.slice ad5 (D.take j).length cap5)) _ (by first | with_reducible exact hHeld | exact ⟨q4, q3⟩ | exact ⟨o4, o3⟩ | exact ⟨Gr.keep (Gr.refl _).alloc n4, Gr.keep (Gr.refl _).alloc n3⟩ | exact ⟨Gr.keep (by repeat(first|exact Gr.r _|refine Gr.a ?_|refine Gr.d ?_|refine Gr.t ?_ (by assumption))) k4, Gr.keep (by repeat(first|exact Gr.r _|refine Gr.a ?_|refine Gr.d ?_|refine Gr.t ?_ (by assumption))) x3⟩) (fun hHeldN => ?_)
                    clear hHeld hK K
                    have hHeld := hHeldN
                    clear hHeldN
                    simp only [Act.put, List.setIfInBounds_toArray, List.set_cons_zero, List.set_cons_succ]
                    refine stepC 18 (by kernel_rfl) rfl (fun K hK => ?_)
                    (refine step_append_at rfl (.tmp 167) (.tmp 175) 48 rfl W.heap.size 28 i0 _ 12 120 Try.underlying48 hi0 hz0 hz1 hz2 rfl (by decide) (.slice ad5 (D.take j).length cap5) (D.take j).length ((D.take j).flatMap fC) rfl ho5 fC_len (D.drop (j + 1)) (highF ad2 cap2 (j + 1)) (cap2 - (j + 1)) (by rw [hDr]; rfl) HCh.out (row_highF (HRo.out.gr (gW.trans g5)) cap2 (j + 1) hcap) (f_one _) (by have := HDl.out; unfold maxLen; omega) (by have := HDl.out; omega) g5.size ?_; intro v6 w6 ho6 hg6 _; have g6 : Gr W w6 := g5.grown hg6 (fun b e => (ho5.lt b e).1); rw [← List.length_append, ← List.flatMap_append] at ho6; obtain ⟨Y, ad6, cap6, hv6e, hpf, hpc6⟩ := pa_fresh HpW.out.pl HpW.out.pc lose_in g6 ho6; subst hv6e; have q4 := Gr.keep g6 n4; have q3 := Gr.keep g6 n3; have mf4 := hpc6.fz 4 (by omega); have ml := hpc6.lt)
                    refine hK.out (Act.put _ (some 176) (.slice ad6 (D.take j ++ D.drop (j + 1)).length cap6)) _ (by first | with_reducible exact hHeld | exact ⟨q4, q3⟩ | exact ⟨o4, o3⟩ | exact ⟨Gr.keep (Gr.refl _).alloc n4, Gr.keep (Gr.refl _).alloc n3⟩ | exact ⟨Gr.keep (by repeat(first|exact Gr.r _|refine Gr.a ?_|refine Gr.d ?_|refine Gr.t ?_ (by assumption))) k4, Gr.keep (by repeat(first|exact Gr.r _|refine Gr.a ?_|refine Gr.d ?_|refine Gr.t ?_ (by assumption))) x3⟩) (fun hHeldN => ?_)
                    clear hHeld hK K
                    have hHeld := hHeldN
                    clear hHeldN
                    simp only [Act.put, List.setIfInBounds_toArray, List.set_cons_zero, List.set_cons_succ]
                    refine takeW 19 177 (v := ?_) rfl rfl (by decide) (by kernel_rfl) (by kernel_rfl) (by kernel_rfl) (fun _ _ _ h => h) (by rfl) ?_ (fun _ => hHeld) ?_
                    rotate_left
                    · (intro w; (try intro hSw); (try dsimp only at hSw); go_simp; try with_reducible rfl)
                    simp only [Act.put, List.setIfInBounds_toArray, List.set_cons_zero, List.set_cons_succ]
                    refine takeW 20 178 (v := ?_) rfl rfl (by decide) (by kernel_rfl) (by kernel_rfl) (by kernel_rfl) (fun _ _ _ h => h) (by rfl) ?_ (fun _ => hHeld) ?_
                    rotate_left
                    · (intro w; (try intro hSw); (try dsimp only at hSw); go_simp; try with_reducible rfl)
                    simp only [Act.put, List.setIfInBounds_toArray, List.set_cons_zero, List.set_cons_succ]
                    refine stepS (by kernel_rfl) rfl (by kernel_rfl) (fun K hK => ?_)
                    go_simp
                    refine hK.out _ _ ?_
                    clear hHeld hK K
                    refine doneL (by kernel_rfl) ?_ _
                    have hLe : (D.take j ++ D.drop (j + 1)).length = j + (D.length - (j + 1)) := by rw [List.length_append, hTk, hDr]
                    have hLn : (D.take j ++ D.drop (j + 1)).length ≤ 400 := by rw [hLe]; have := HDl.out; omega
                    rw [hLe] at hpf
                    have HPf := Lib.hid hpf
                    have HLn := Lib.hid hLn
                    clear hpf hpc6 ho6 hg6 ho5 hg5 g5 g6 n4 n3 nl o4 o3 q4 q3 mf4 ml hTk hDr hLn hLe hlow hhigh hcap
                    go_wp2_with fail
                    go_meet
                    exact ⟨Y, g, l, vl, P, H, _, _, (D.take j ++ D.drop (j + 1)), (by rw [HCi.out]; exact HPf.out), HT.out.frames (fun f hf => by obtain ⟨x, hx, rfl⟩ := List.mem_map.1 hf; exact List.mem_map_of_mem (lose_in x hx)), (fun q hq => by have := HV.out q hq; omega), (by have := HLn.out; omega)⟩
                · skip
                  have hw1 : ¬ ((j : Int) < (D.length : Int)) := by omega
                  have hw2 : decide ((j : Int) < (D.length : Int)) = false := decide_eq_false hw1
                  have hw3 : ¬ j < D.length := h1
                  have hj0 : (0 : Int) ≤ (j : Int) := by omega
                  have k4 := HPA.out.pc.cf
                  have kl := HPA.out.pc.lt
                  clear x0 x1 x2 h1
                  go_wp2_with fail
                  refine wp_region_held_drew (S := (fun w' => Gr wA w' ∧ w'.cell? ⟨gv, 3, none⟩ = some (.int .i64 (j : Int)) ∧ w'.cell? ⟨gp, 4, none⟩ = some (.slice ad2 D.length cap2))) (by kernel_rfl) (by exact ⟨(by repeat(first|exact Gr.r _|refine Gr.a ?_|refine Gr.d ?_|refine Gr.t ?_ (by assumption))), Gr.keep (by repeat(first|exact Gr.r _|refine Gr.a ?_|refine Gr.d ?_|refine Gr.t ?_ (by assumption))) x3, Gr.keep (by repeat(first|exact Gr.r _|refine Gr.a ?_|refine Gr.d ?_|refine Gr.t ?_ (by assumption))) k4⟩) (fun hHeld => ?_)
                  refine ty 0 145 hHeld ?_
                  refine ty 1 146 hHeld ?_
                  refine ty 2 147 hHeld ?_
                  refine ty 3 148 hHeld ?_
                  refine ty 4 149 hHeld ?_
                  refine ty 5 150 hHeld ?_
                  refine ty 6 151 hHeld ?_
                  refine ty 7 152 hHeld ?_
                  refine ty 8 153 hHeld ?_
                  refine ty 9 154 hHeld ?_
                  refine ty 10 155 hHeld ?_
                  refine ty 11 156 hHeld ?_
                  refine ty 12 157 hHeld ?_
                  refine wpAnyH_done (by kernel_rfl) ?_ _
                  have HGn := Lib.hid hHeld.1
                  clear hHeld
                  go_wp2_with fail
                  go_meet
                  exact ⟨Z, g, l, vl, P, H, ad2, cap2, D, (by rw [HCi.out]; exact (HPA.out.up HGn.out)), HT.out, (fun q hq => by have := HV.out q hq; omega), (by have := HDl.out; omega)⟩
              · skip
                have hw0 : ¬ (0 : Int) ≤ vw := h0
                have hw1 : decide ((0 : Int) ≤ vw) = false := decide_eq_false h0
                have hw2 : vw < 0 := by omega
                clear x0 x1 x2
                go_wp2_with fail
                refine wp_region_held_drew (S := (fun w' => Gr wA w' ∧ w'.cell? ⟨gv, 3, none⟩ = some (.int .i64 vw))) (by kernel_rfl) (by exact ⟨(by repeat(first|exact Gr.r _|refine Gr.a ?_|refine Gr.d ?_|refine Gr.t ?_ (by assumption))), Gr.keep (by repeat(first|exact Gr.r _|refine Gr.a ?_|refine Gr.d ?_|refine Gr.t ?_ (by assumption))) x3⟩) (fun hHeld => ?_)
                refine ty 0 145 hHeld ?_
                refine ty 1 146 hHeld ?_
                refine ty 2 147 hHeld ?_
                refine ty 3 148 hHeld ?_
                refine tn 4 149 hHeld ?_
                refine tn 5 150 hHeld ?_
                refine tn 6 151 hHeld ?_
                refine tn 7 152 hHeld ?_
                refine tn 8 153 hHeld ?_
                refine tn 9 154 hHeld ?_
                refine tn 10 155 hHeld ?_
                refine tn 11 156 hHeld ?_
                refine ty 12 157 hHeld ?_
                refine wpAnyH_done (by kernel_rfl) ?_ _
                have HGn := Lib.hid hHeld.1
                clear hHeld
                go_wp2_with fail
                go_meet
                exact ⟨Z, g, l, vl, P, H, ad2, cap2, D, (by rw [HCi.out]; exact (HPA.out.up HGn.out)), HT.out, (fun q hq => by have := HV.out q hq; omega), (by have := HDl.out; omega)⟩
          · skip
            as_aux_lemma =>
              have q0 : (vk == 0) = false := by rw [beq_eq_false_iff_ne]; exact p0
              have q1 : (vk == 1) = false := by rw [beq_eq_false_iff_ne]; exact p1
              have q2 : (vk == 2) = false := by rw [beq_eq_false_iff_ne]; exact p2
              have q3 : (vk == 3) = false := by rw [beq_eq_false_iff_ne]; exact p3
              clear p0 p1 p2 p3
              go_wp2_with fail
              go_meet
              exact ⟨Z, g, l, vl, P, H, ad2, cap2, D, (by rw [HCi.out]; exact HPA.out), HT.out, (fun q hq => by have := HV.out q hq; omega), (by have := HDl.out; omega)⟩
        case rest =>
          as_aux_lemma =>
            obtain ⟨Z2, g2, l2, vl2, P2, H2, ad3, cap3, D2, hpa, htw, hvl, hD⟩ := hcut
            have HPr := Lib.hid hpa
            have HTr := Lib.hid htw
            have HVr := Lib.hid hvl
            have HDr := Lib.hid hD
            clear hpa htw hvl hD x0 x1 x2 x3 xl
            go_wp2
            go_loopw [9] (fun s9 wq => ∃ a : Nat, s9 = .int .i64 a ∧ a ≤ 2 ∧ Gr wc wq) (fun s9 _ => 2 - (intOf s9).toNat)
            case atStart => exact ⟨0, rfl, by omega, Gr.refl _⟩
            case round =>
              obtain ⟨a, rfl, ha, hga⟩ := hrel
              have HGa := Lib.hid hga
              by_cases ha2 : a < 2
              · have ha3 : (a : Int) < 2 := by omega
                have ha0 : (0 : Int) ≤ (a : Int) := by omega
                clear hga
                go_wp2
                go_loopw [10] (fun s10 wq => ∃ k : Nat, s10 = .int .i64 k ∧ k ≤ 8 ∧ Gr wc wq) (fun s10 _ => 8 - (intOf s10).toNat)
                case atStart => exact ⟨0, rfl, by omega, HGa.out⟩
                case round =>
                  obtain ⟨k, rfl, hk, hgk⟩ := hrel
                  have HGk := Lib.hid hgk
                  by_cases hk8 : k < 8
                  · have hk3 : (k : Int) < 8 := by omega
                    have hk0 : (0 : Int) ≤ (k : Int) := by omega
                    have hp := HPr.out.pc.gr hgk
                    have c1 : wr.cell? ⟨gp, 22 + a * 8 + k, none⟩ = some (.int .i64 (H2 (a * 8 + k))) := by rw [Nat.add_assoc]; exact hp.ch (a * 8 + k) (by omega)
                    have c2 : wr.cell? ⟨gp, 6 + a * 8 + k, none⟩ = some (.int .i64 (P2 (a * 8 + k))) := by rw [Nat.add_assoc]; exact hp.cp (a * 8 + k) (by omega)
                    have cl := hp.lt
                    have hle := (HTr.out.le ha2 hk8).1
                    have hno : ¬ P2 (a * 8 + k) < H2 (a * 8 + k) := by omega
                    clear hp hgk hle
                    generalize P2 (a * 8 + k) = pv at *
                    generalize H2 (a * 8 + k) = hv at *
                    go_upto_region 31 with fail
                    go_region
                    go_wp2
                    go_roundw
                    case rel => exact ⟨k + 1, by go_num, by omega, HGk.out.drew⟩
                    case measure => simp [intOf]; omega
                  · have hk3 : ¬ (k : Int) < 8 := by omega
                    clear hgk
                    go_wp2
                    go_roundw
                    case rel => exact ⟨a + 1, by go_num, by omega, HGk.out⟩
                    case measure => simp [intOf]; omega
              · have ha3 : ¬ (a : Int) < 2 := by omega
                have hp := HPr.out.pc.gr hga
                have k4 := hp.cf
                have kl := hp.lt
                have HDr2 := HDr.out
                clear hp hga
                by_cases hb : 400 < D2.length
                · have hb1 : (400 : Int) < (D2.length : Int) := by omega
                  go_wp2_with fail
                  refine (HA.out _).mono ?_
                  rintro e4 w4 ⟨rfl, hg4⟩
                  go_wp2
                  go_ret
                  exact ⟨rfl, (HPr.out.pl.gr.trans HGa.out).trans hg4⟩
                · have hb1 : ¬ (400 : Int) < (D2.length : Int) := by omega
                  go_wp2
                  go_roundw
                  case rel => exact ⟨i + 1, by go_num, by omega, Z2, g2, l2, vl2, P2, H2, ad3, cap3, D2, HPr.out.up HGa.out, HTr.out, HVr.out, by omega⟩
                  case measure => simp [intOf]; omega
      · have hge : ¬ ((i : Int) < (E.length : Int)) := by omega
        go_wp2_with fail
        refine (HA.out _).mono ?_
        rintro e4 w4 ⟨rfl, hg4⟩
        go_wp2
        go_ret
        exact ⟨rfl, HP.out.pl.gr.trans hg4⟩

set_option maxRecDepth 100000 in
theorem linkOnce_lifted (os : Os) (started : os.Started) (H : Type) (enc : TypeId × Value → H) :
    ReturnsInHanded {} Try.checked os 4 .any (Rows.linkOnceSpec.pre6 enc Try.prog Try.f4 Rows.linkOnceRow.domain false) (Rows.linkOnceSpec.post enc Try.prog Try.f4 false true false false) := by
  refine returnsInHanded_of_change (C := Try.checked) own2 started (by kernel_rfl) Try.func4
    (ChangeSpec.witness6 (enc := enc) (C := Try.checked) false ⟨#[], #[.slice none 0 0], []⟩ 8 (by kernel_rfl) (by kernel_rfl) (by kernel_rfl) (by kernel_rfl)) ?_
  intro W base args ds gs before hval0 hW hcnd _
  have hval : ∀ (j : Nat) t v, Try.f4.params[j]? = some t → args[j]? = some v → Value.okWide Try.prog W .any base t v := hval0
  have hW' := hW
  obtain ⟨p, q, hA0, hV, rfl, hfz, hnd⟩ := hW
  have hA : DataW.TrodAll enc Try.prog W 0 (fun _ => true) true Try.f4.params.toList args.toList ds p := hA0
  rw [Try.params4] at hA hval
  obtain ⟨v0, d0, rfl, rfl, q0⟩ := trodAll_one hA
  obtain ⟨rfl, rfl⟩ := trodVars_none hV
  have k0 := q0
  have lt0 : ∀ x ∈ p, x.block < W.heap.size := by obtain ⟨m, hm⟩ := k0; exact DataW.trod_lt m _ _ _ hm
  obtain ⟨ad0, cap0, D0, rfl, hD0, hn0, hi0⟩ := open_evs (hval 0 52 v0 rfl rfl) q0
  clear hA0 hval0
  refine (linkOnce_walk D0 ad0 cap0 W hD0 hn0 hi0).mono fun e W' ⟨he, hg⟩ => ?_
  subst he
  exact ⟨_, rfl, _, _, _, [], _, [], hW', trodAll_mk1 (shut_bool Try.underlying4 _), trodAll_mk1 (Below.trod laidOut2 (by kernel_rfl) (of_decide_eq_true (by kernel_rfl)) k0 hg.below lt0), rfl, hg.below.frame _, fun h => by cases h⟩

theorem linkOnce_holds : Rows.LinkOnceSaid :=
  OpenClaim.holds_of_wide 4 Try.f4 rfl rfl rfl rfl rfl rfl rfl ⟨rfl, rfl, rfl, rfl, rfl⟩ rfl rfl rfl rfl rfl (by kernel_rfl) Try.func4 (by kernel_rfl)
    (of_decide_eq_true (by kernel_rfl)) (by unfold Func.isWrapper; first | (rw [if_pos (by decide +kernel)]; kernel_rfl) | (rw [if_neg (by decide +kernel)]; exact ⟨rfl, rfl⟩))
    (fun os started H enc _ => linkOnce_lifted os started H enc)
end Go.Proofs.Ythfbpilfdfploaa
