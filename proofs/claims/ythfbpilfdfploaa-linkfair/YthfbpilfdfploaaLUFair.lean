/- For every row of events the law LinkFair answers true: through any losses, doublings and new lives, where from then on each frame comes through, all notes on their way are answered within forty rounds; no condition. -/
import Derived.Test.YthfbpilfdfploaaGV
import Derived.Test.YthfbpilfdfploaaGL
import Derived.Deep.CutBlock
import Derived.BigRegion
namespace Go.Proofs.Ythfbpilfdfploaa
open Go.ChangeShapes Go.WideShapes Go.ChangeAt Go.RowKit
open Lk (St)

def FairI (w wr : World) (gp i : Nat) (m : Nat) : Prop := ∃ Z g l vl P H ad cap D, Pa Z w wr gp g l vl (i : Int) P H ad cap D ∧ Tw l i (14 + i) (frs D) ∧ (∀ s, s < 2 → vl s = (l s).ep) ∧ D.length ≤ m
set_option maxHeartbeats 16000000 in
set_option maxRecDepth 100000 in
theorem linkFair_walk (E : List Ev) (ad : Option Addr) (cap : Nat) (w : World) (hE : RowAt eC w ad E) (hn : E.length ≤ 9223372036854775807) (hi : ∀ z ∈ E, EvIn z) :
    Calls Try.prog 5 #[.slice ad E.length cap] w fun e w' => e = .returned (.bool true) ∧ Gr w w' := by
  have HA : Hid (∀ w', Calls Try.prog 13 #[] w' fun e w2 => AwR w' e w2) := fun w' => awake_any w'
  have HB : Hid (Calls Try.prog 14 #[] w fun e w2 => BgR w e w2) := begun_any w
  have HE := Lib.hid hE
  have HI := Lib.hid hi
  clear hE hi
  by_cases h1 : 150 < E.length
  · have h1' : (150 : Int) < (E.length : Int) := by omega
    go_enter Try.func5, Try.ntmps5
    go_wp2_with fail
    refine (HA.out _).mono ?_
    rintro e1 w1 ⟨rfl, hg1⟩
    go_wp2
    go_ret
    exact ⟨rfl, hg1⟩
  · have h1' : ¬ (150 : Int) < (E.length : Int) := by omega
    have HLen : Hid (E.length ≤ 150) := by show _ ≤ _; omega
    go_enter Try.func5, Try.ntmps5
    go_wp2_with fail
    refine HB.out.mono ?_
    rintro e1 w1 ⟨Z, gp, g, rfl, hpa⟩
    have HI0 : Hid (FairI w w1 gp 0 400) := ⟨Z, g, _, _, _, _, _, _, _, hpa, Lk.two_new CX nt, fun s hs => by rcases two_cases hs with rfl | rfl <;> rfl, by simp⟩
    clear hpa
    go_wp2
    go_loopw [5] (fun s5 wr => ∃ i : Nat, s5 = .int .i64 i ∧ i ≤ E.length ∧ FairI w wr gp i 400) (fun s5 _ => E.length - (intOf s5).toNat)
    case atStart => exact ⟨0, rfl, Nat.zero_le _, HI0.out⟩
    case round =>
      obtain ⟨i, rfl, hi, hf⟩ := hrel
      obtain ⟨Z, g, l, vl, P, H, ad2, cap2, D, hpa, htw, hvl, hD⟩ := hf
      have HP := Lib.hid hpa
      have HT := Lib.hid htw
      have HV := Lib.hid hvl
      have HDl := Lib.hid hD
      clear hpa htw hvl hD HI0
      by_cases hlt : i < E.length
      · obtain ⟨bb, off, rfl, hbl, d0, d1, d2, d3⟩ := EvsRow.at HE.out i hlt
        have hg := HP.out.pl.gr
        have hbw : bb < wr.heap.size := Nat.lt_of_lt_of_le hbl hg.size
        have d0 := hg.keep d0
        have d1 := hg.keep d1
        have d2 := hg.keep d2
        have d3 := hg.keep d3
        have hji : (i : Int) < (E.length : Int) := by omega
        have hj0 : (0 : Int) ≤ (i : Int) := by omega
        have HIn := Lib.hid (HI.out E[i] (List.getElem_mem hlt))
        clear hg hbl
        generalize E[i] = z at *
        obtain ⟨vk, vf, vs, vw⟩ := z
        dsimp only at *
        have q5 := HP.out.pc.cn
        have qf5 := HP.out.pc.fz 5 (by omega)
        have ql := HP.out.pc.lt
        go_upto_block 2 with fail
        have HEp0 : Hid (∀ t, t < 2 → (l t).ep ≠ 0) := fun t ht => by have := HT.out.ep ht; omega
        obtain ⟨s, hs, hse⟩ := side_of vf
        have hs2 : (s : Int) < 2 := by omega
        have hs0 : (0 : Int) ≤ (s : Int) := by omega
        obtain ⟨wA, hwA⟩ : ∃ x, x = (wr.setCell ⟨gp, 5, none⟩ (.int .i64 ((i : Int) + 1))).alloc (.cells #[.int .i64 vk, .int .i64 vf, .int .i64 vs, .int .i64 vw] 57) := ⟨_, rfl⟩
        have HPA : Hid (Pa Z w wA gp g l vl ((i : Int) + 1) P H ad2 cap2 D) := by
          show Pa _ _ _ _ _ _ _ _ _ _ _ _ _
          rw [hwA]
          exact (HP.out.setN ((i : Int) + 1)).up (Gr.refl _).alloc
        obtain ⟨gv, hgv⟩ : ∃ x, x = wr.heap.size := ⟨_, rfl⟩
        have HXv : Hid (Cs wA gv [.int .i64 vk, .int .i64 vf, .int .i64 vs, .int .i64 vw]) := by
          show Cs _ _ _
          rw [hwA, hgv]
          exact Cs.new _ _ _ _ (by simp)
        have HGv : Hid ((∀ t, t < 2 → g t ≠ gv) ∧ gv ≠ gp) := ⟨fun t ht => by have := HP.out.pl.lt ht; omega, by have := HP.out.pl.lx; omega⟩
        have HEq : Hid (∀ t, t < 2 → (l t).ep ≠ 0) := HEp0.out
        have HEp : Hid ((l s).ep ≠ 0) := HEp0.out s hs
        have x0 := HXv.out.at_ 0 _ rfl
        have x1 := HXv.out.at_ 1 _ rfl
        have x2 := HXv.out.at_ 2 _ rfl
        have x3 := HXv.out.at_ 3 _ rfl
        have xl := HXv.out.lt
        have hci : ((i + 1 : Nat) : Int) = (i : Int) + 1 := by omega
        have HCi := Lib.hid hci
        clear hci
        have HTok : Hid (∀ f ∈ frs D, ∃ s t : Nat, s < 2 ∧ s + t = 1 ∧ FrOk s t f) := fun f hf => HT.out.frok hf
        have HTw : Hid (Tw l ((i : Int) + 1) (14 + (i : Int)) (frs D)) := (HT.out.mono (now2 := (i : Int) + 1) (B2 := 14 + (i : Int)) (by omega) (by omega))
        have HTt : Hid (Ox.tmB ((i : Int) + 1) = true) := decide_eq_true (by have := HLen.out; omega)
        have HBd : Hid (14 + (i : Int) ≤ 1000000) := by have := HLen.out; show _ ≤ _; omega
        rw [hse, ← hwA, ← hgv]
        clear hwA hgv hse HXv HP HIn d0 d1 d2 d3 q5 qf5 ql hbw
        go_cut [8, 9] from 45 to 151 (fun _ _ wx => FairI w wx gp (i + 1) 412)
        case first =>
          by_cases p0 : vk = 0
          · skip
            subst p0
            obtain ⟨k, hk, hke⟩ := note_of2 vs
            have q5 := HPA.out.pc.cn
            have qs := HPA.out.pc.ck s hs
            have ql := HPA.out.pc.lt
            have HSz : Hid (gv < wA.heap.size ∧ gp < wA.heap.size ∧ gv ≠ g s ∧ gp ≠ g s) := ⟨xl, ql, (HGv.out.1 s hs).symm, (HPA.out.pl.np s hs).symm⟩
            have HNo : Hid (∀ w', Gr wA w' → Calls Try.prog 15 #[.int .i64 (s : Int), .int .i64 (k : Int)] w' fun e w2 => ∃ p, e = .returned (.agg #[.int .i64 (ntF s k).k, .int .i64 0, .int .i64 1, .slice p 1 1, .string ⟨#[]⟩, .int .i64 0]) ∧ MnAt Z w2 ⟨ntF s k, p, 1⟩ ∧ Gr w' w2) := fun w' q => note_any _ _ w' (HPA.out.up q).pl.fr
            have HSd : Hid (∀ w' gq p, Gr wA w' → NtsAt Z w' (some ⟨gq, 0, none⟩) [⟨ntF s k, p, 1⟩] → Calls Try.prog 7 #[.pointer (some ⟨g s, 0, none⟩), .int .i64 ((i : Int) + 1), .slice (some ⟨gq, 0, none⟩) 1 1] w' fun e w2 => e = .returned (.int .i64 (Lk.sendE CX (l s) ((i : Int) + 1) [nt s k])) ∧ Pa Z w w2 gp g (upd l s (Lk.sendS CX (l s) ((i : Int) + 1) [nt s k])) vl ((i : Int) + 1) P H ad2 cap2 D ∧ GB (g s) w' w2) := fun w' gq p g1 g2 => a_send (HPA.out.up g1) hs HEp.out ⟨ntF s k, p, 1⟩ ((i : Int) + 1) gq g2
            clear x0 x1 x3
            go_wp2_with fail
            refine wp_region_held_drew (S := (fun w' => KB (fun b => b = g s) wA w' ∧ w'.cell? ⟨gp, s, none⟩ = some (.pointer (some ⟨g s, 0, none⟩)) ∧ w'.cell? ⟨gp, 5, none⟩ = some (.int .i64 ((i : Int) + 1)) ∧ w'.cell? ⟨gv, 2, none⟩ = some (.int .i64 vs))) (by kernel_rfl) (by exact ⟨(by (repeat' (first | with_reducible exact KB.refl _ _ | with_reducible refine KB.setc ?_ ?_ | with_reducible refine KB.alloc ?_ | with_reducible refine KB.drew ?_ | with_reducible refine KB.trans ?_ (by assumption))) <;> (first | (simp; done) | (simp; omega) | omega)), KB.cell (S := fun b => b = g s) (by (repeat' (first | with_reducible exact KB.refl _ _ | with_reducible refine KB.setc ?_ ?_ | with_reducible refine KB.alloc ?_ | with_reducible refine KB.drew ?_ | with_reducible refine KB.trans ?_ (by assumption))) <;> (first | (simp; done) | (simp; omega) | omega)) _ _ _ HSz.out.2.1 HSz.out.2.2.2 qs, KB.cell (S := fun b => b = g s) (by (repeat' (first | with_reducible exact KB.refl _ _ | with_reducible refine KB.setc ?_ ?_ | with_reducible refine KB.alloc ?_ | with_reducible refine KB.drew ?_ | with_reducible refine KB.trans ?_ (by assumption))) <;> (first | (simp; done) | (simp; omega) | omega)) _ _ _ HSz.out.2.1 HSz.out.2.2.2 q5, KB.cell (S := fun b => b = g s) (by (repeat' (first | with_reducible exact KB.refl _ _ | with_reducible refine KB.setc ?_ ?_ | with_reducible refine KB.alloc ?_ | with_reducible refine KB.drew ?_ | with_reducible refine KB.trans ?_ (by assumption))) <;> (first | (simp; done) | (simp; omega) | omega)) _ _ _ HSz.out.1 HSz.out.2.2.1 x2⟩) (fun hHeld => ?_)
            refine ty 0 47 hHeld ?_
            refine ty 1 48 hHeld ?_
            refine ty 2 49 hHeld ?_
            refine ty 3 50 hHeld ?_
            refine ty 4 51 hHeld ?_
            refine ty 5 52 hHeld ?_
            refine ty 6 53 hHeld ?_
            refine ty 7 54 hHeld ?_
            refine ty 8 55 hHeld ?_
            refine ty 9 56 hHeld ?_
            refine ty 10 57 hHeld ?_
            refine ty 11 58 hHeld ?_
            refine ty 12 59 hHeld ?_
            refine ty 13 60 hHeld ?_
            refine ty 14 61 hHeld ?_
            refine ty 15 62 hHeld ?_
            refine wpAnyH_ready (rs := [16]) (by kernel_rfl) (by simp) (AllReadyH.cons rfl (fun K hK => ?_) AllReadyH.nil)
            go_simp
            (go_at_call 15; refine (HNo.out _ (Gr.refl _).drew).mono ?_; rintro e wn ⟨p, rfl, hmn, hgn⟩; have hkn := KB.ofGr (S := fun b => b = g s) hgn)
            (try go_wp2_with fail)
            refine hK.out _ _ (by exact ⟨(by (repeat' (first | with_reducible exact KB.refl _ _ | with_reducible refine KB.setc ?_ ?_ | with_reducible refine KB.alloc ?_ | with_reducible refine KB.drew ?_ | with_reducible refine KB.trans ?_ (by assumption))) <;> (first | (simp; done) | (simp; omega) | omega)), KB.cell (S := fun b => b = g s) (by (repeat' (first | with_reducible exact KB.refl _ _ | with_reducible refine KB.setc ?_ ?_ | with_reducible refine KB.alloc ?_ | with_reducible refine KB.drew ?_ | with_reducible refine KB.trans ?_ (by assumption))) <;> (first | (simp; done) | (simp; omega) | omega)) _ _ _ HSz.out.2.1 HSz.out.2.2.2 qs, KB.cell (S := fun b => b = g s) (by (repeat' (first | with_reducible exact KB.refl _ _ | with_reducible refine KB.setc ?_ ?_ | with_reducible refine KB.alloc ?_ | with_reducible refine KB.drew ?_ | with_reducible refine KB.trans ?_ (by assumption))) <;> (first | (simp; done) | (simp; omega) | omega)) _ _ _ HSz.out.2.1 HSz.out.2.2.2 q5, KB.cell (S := fun b => b = g s) (by (repeat' (first | with_reducible exact KB.refl _ _ | with_reducible refine KB.setc ?_ ?_ | with_reducible refine KB.alloc ?_ | with_reducible refine KB.drew ?_ | with_reducible refine KB.trans ?_ (by assumption))) <;> (first | (simp; done) | (simp; omega) | omega)) _ _ _ HSz.out.1 HSz.out.2.2.1 x2⟩) (fun hHeldN => ?_)
            clear hHeld hK K
            have hHeld := hHeldN
            clear hHeldN
            refine wpAnyH_ready (rs := [17]) (by kernel_rfl) (by simp) (AllReadyH.cons rfl (fun K hK => ?_) AllReadyH.nil)
            go_simp
            refine hK.out _ _ (by exact ⟨(by (repeat' (first | with_reducible exact KB.refl _ _ | with_reducible refine KB.setc ?_ ?_ | with_reducible refine KB.alloc ?_ | with_reducible refine KB.drew ?_ | with_reducible refine KB.trans ?_ (by assumption))) <;> (first | (simp; done) | (simp; omega) | omega)), KB.cell (S := fun b => b = g s) (by (repeat' (first | with_reducible exact KB.refl _ _ | with_reducible refine KB.setc ?_ ?_ | with_reducible refine KB.alloc ?_ | with_reducible refine KB.drew ?_ | with_reducible refine KB.trans ?_ (by assumption))) <;> (first | (simp; done) | (simp; omega) | omega)) _ _ _ HSz.out.2.1 HSz.out.2.2.2 qs, KB.cell (S := fun b => b = g s) (by (repeat' (first | with_reducible exact KB.refl _ _ | with_reducible refine KB.setc ?_ ?_ | with_reducible refine KB.alloc ?_ | with_reducible refine KB.drew ?_ | with_reducible refine KB.trans ?_ (by assumption))) <;> (first | (simp; done) | (simp; omega) | omega)) _ _ _ HSz.out.2.1 HSz.out.2.2.2 q5, KB.cell (S := fun b => b = g s) (by (repeat' (first | with_reducible exact KB.refl _ _ | with_reducible refine KB.setc ?_ ?_ | with_reducible refine KB.alloc ?_ | with_reducible refine KB.drew ?_ | with_reducible refine KB.trans ?_ (by assumption))) <;> (first | (simp; done) | (simp; omega) | omega)) _ _ _ HSz.out.1 HSz.out.2.2.1 x2⟩) (fun hHeldN => ?_)
            clear hHeld hK K
            have hHeld := hHeldN
            clear hHeldN
            refine wpAnyH_ready (rs := [18]) (by kernel_rfl) (by simp) (AllReadyH.cons rfl (fun K hK => ?_) AllReadyH.nil)
            go_simp
            (go_at_call 7; refine (HSd.out _ wn.heap.size p ((Gr.refl _).drew.trans hgn).alloc (ntsZ rfl hmn)).mono ?_; rintro e w2 ⟨rfl, hp2, hg2⟩; have hkn2 := KB.ofGB (S := fun b => b = g s) hg2 rfl)
            (try go_wp2_with fail)
            refine hK.out _ _ (by exact ⟨(by (repeat' (first | with_reducible exact KB.refl _ _ | with_reducible refine KB.setc ?_ ?_ | with_reducible refine KB.alloc ?_ | with_reducible refine KB.drew ?_ | with_reducible refine KB.trans ?_ (by assumption))) <;> (first | (simp; done) | (simp; omega) | omega)), KB.cell (S := fun b => b = g s) (by (repeat' (first | with_reducible exact KB.refl _ _ | with_reducible refine KB.setc ?_ ?_ | with_reducible refine KB.alloc ?_ | with_reducible refine KB.drew ?_ | with_reducible refine KB.trans ?_ (by assumption))) <;> (first | (simp; done) | (simp; omega) | omega)) _ _ _ HSz.out.2.1 HSz.out.2.2.2 qs, KB.cell (S := fun b => b = g s) (by (repeat' (first | with_reducible exact KB.refl _ _ | with_reducible refine KB.setc ?_ ?_ | with_reducible refine KB.alloc ?_ | with_reducible refine KB.drew ?_ | with_reducible refine KB.trans ?_ (by assumption))) <;> (first | (simp; done) | (simp; omega) | omega)) _ _ _ HSz.out.2.1 HSz.out.2.2.2 q5, KB.cell (S := fun b => b = g s) (by (repeat' (first | with_reducible exact KB.refl _ _ | with_reducible refine KB.setc ?_ ?_ | with_reducible refine KB.alloc ?_ | with_reducible refine KB.drew ?_ | with_reducible refine KB.trans ?_ (by assumption))) <;> (first | (simp; done) | (simp; omega) | omega)) _ _ _ HSz.out.1 HSz.out.2.2.1 x2⟩) (fun hHeldN => ?_)
            clear hHeld hK K
            have hHeld := hHeldN
            clear hHeldN
            refine wpAnyH_done (by kernel_rfl) ?_ _
            have HPf := Lib.hid hp2
            clear hHeld hp2 hg2 hmn hgn hkn hkn2 q5 qs ql x2
            go_wp2_with fail
            go_meet
            exact ⟨Z, g, upd l s (Lk.sendS CX (l s) ((i : Int) + 1) [nt s k]), vl, P, H, ad2, cap2, D, (by rw [HCi.out]; exact HPf.out), (HTw.out.send hs hk).mono (by omega) (by omega), upd_ep HV.out (send_ep _ _ _), (by have := HDl.out; omega)⟩
          by_cases p1 : vk = 1
          · skip
            subst p1
            have HTk : Hid (∀ w', Gr wA w' → Calls Try.prog 12 #[.pointer (some ⟨g s, 0, none⟩), .int .i64 ((i : Int) + 1)] w' fun e w2 => TkF Z (Lk.tickF CX (l s) ((i : Int) + 1)) w' e w2 ∧ Pa Z w w2 gp g (upd l s (Lk.tickS CX (l s) ((i : Int) + 1))) vl ((i : Int) + 1) P H ad2 cap2 D ∧ GB (g s) w' w2) := fun w' k => a_tick (HPA.out.up k) hs HEp.out ((i : Int) + 1)
            have HTl := Lib.hid (tick_len (l s) ((i : Int) + 1))
            obtain ⟨i0, hi0, hz0, hz1, hz2⟩ := info_parts infoFrame
            have k4 := HPA.out.pc.cf
            have ks := HPA.out.pc.ck s hs
            have k5 := HPA.out.pc.cn
            have kl := HPA.out.pc.lt
            clear x0 x1 x2 x3 xl
            go_wp2_with fail
            refine beginL 19 (fun w' => w'.cell? ⟨gp, 4, none⟩ = some (.slice ad2 D.length cap2) ∧ w'.cell? ⟨gp, s, none⟩ = some (.pointer (some ⟨g s, 0, none⟩)) ∧ w'.cell? ⟨gp, 5, none⟩ = some (.int .i64 ((i : Int) + 1))) (by kernel_rfl) (by first | with_reducible exact hHeld | exact ⟨m4, ms, m5⟩ | exact ⟨n4, ns, n5⟩ | exact ⟨Gr.keep (by repeat(first|exact Gr.r _|refine Gr.a ?_|refine Gr.d ?_|refine Gr.t ?_ (by assumption))) k4, Gr.keep (by repeat(first|exact Gr.r _|refine Gr.a ?_|refine Gr.d ?_|refine Gr.t ?_ (by assumption))) ks, Gr.keep (by repeat(first|exact Gr.r _|refine Gr.a ?_|refine Gr.d ?_|refine Gr.t ?_ (by assumption))) k5⟩) (fun hHeld => ?_)
            refine takeW 0 68 (v := ?_) rfl rfl (by decide) (by kernel_rfl) (by kernel_rfl) (by kernel_rfl) (fun _ _ _ h => h) (by rfl) ?_ (fun _ => hHeld) ?_
            rotate_left
            · (intro w; (try intro hSw); (try dsimp only at hSw); go_simp; try with_reducible rfl)
            simp only [Act.put, List.setIfInBounds_toArray, List.set_cons_zero, List.set_cons_succ]
            refine takeW 1 69 (v := ?_) rfl rfl (by decide) (by kernel_rfl) (by kernel_rfl) (by kernel_rfl) (fun _ _ _ h => h) (by rfl) ?_ (fun _ => hHeld) ?_
            rotate_left
            · (intro w; (try intro hSw); (try dsimp only at hSw); go_simp; try with_reducible rfl)
            simp only [Act.put, List.setIfInBounds_toArray, List.set_cons_zero, List.set_cons_succ]
            refine takeW 2 70 (v := ?_) rfl rfl (by decide) (by kernel_rfl) (by kernel_rfl) (by kernel_rfl) (fun _ _ _ h => h) (by rfl) ?_ (fun _ => hHeld) ?_
            rotate_left
            · (intro w; (try intro hSw); (try dsimp only at hSw); go_simp; try with_reducible rfl)
            simp only [Act.put, List.setIfInBounds_toArray, List.set_cons_zero, List.set_cons_succ]
            refine takeW 3 71 (v := ?_) rfl rfl (by decide) (by kernel_rfl) (by kernel_rfl) (by kernel_rfl) (fun _ _ _ h => h) (by rfl) ?_ (fun _ => hHeld) ?_
            rotate_left
            · (intro w; (try intro hSw); (try dsimp only at hSw); go_simp; try with_reducible rfl)
            simp only [Act.put, List.setIfInBounds_toArray, List.set_cons_zero, List.set_cons_succ]
            refine takeW 5 73 (v := ?_) rfl rfl (by decide) (by kernel_rfl) (by kernel_rfl) (by kernel_rfl) (fun _ _ _ h => h) (by rfl) ?_ (fun _ => hHeld) ?_
            rotate_left
            · (intro w; (try intro hSw); (try dsimp only at hSw); go_simp; try with_reducible rfl)
            simp only [Act.put, List.setIfInBounds_toArray, List.set_cons_zero, List.set_cons_succ]
            refine takeW 6 74 (v := ?_) rfl rfl (by decide) (by kernel_rfl) (by kernel_rfl) (by kernel_rfl) (fun _ _ _ h => h) (by rfl) ?_ (fun _ => hHeld) ?_
            rotate_left
            · (intro w; (try intro hSw); (try dsimp only at hSw); go_simp; try with_reducible rfl)
            simp only [Act.put, List.setIfInBounds_toArray, List.set_cons_zero, List.set_cons_succ]
            refine takeW 7 75 (v := ?_) rfl rfl (by decide) (by kernel_rfl) (by kernel_rfl) (by kernel_rfl) (fun _ _ _ h => h) (by rfl) ?_ (fun _ => hHeld) ?_
            rotate_left
            · (intro w; (try intro hSw); (try dsimp only at hSw); go_simp; try with_reducible rfl)
            simp only [Act.put, List.setIfInBounds_toArray, List.set_cons_zero, List.set_cons_succ]
            refine takeW 8 76 (v := ?_) rfl rfl (by decide) (by kernel_rfl) (by kernel_rfl) (by kernel_rfl) (fun _ _ _ h => h) (by rfl) ?_ (fun _ => hHeld) ?_
            rotate_left
            · (intro w; (try intro hSw); (try dsimp only at hSw); go_simp; try with_reducible rfl)
            simp only [Act.put, List.setIfInBounds_toArray, List.set_cons_zero, List.set_cons_succ]
            refine takeW 9 77 (v := ?_) rfl rfl (by decide) (by kernel_rfl) (by kernel_rfl) (by kernel_rfl) (fun _ _ _ h => h) (by rfl) ?_ (fun _ => hHeld) ?_
            rotate_left
            · (intro w; (try intro hSw); (try dsimp only at hSw); go_simp; try with_reducible rfl)
            simp only [Act.put, List.setIfInBounds_toArray, List.set_cons_zero, List.set_cons_succ]
            refine takeW 11 79 (v := ?_) rfl rfl (by decide) (by kernel_rfl) (by kernel_rfl) (by kernel_rfl) (fun _ _ _ h => h) (by rfl) ?_ (fun _ => hHeld) ?_
            rotate_left
            · (intro w; (try intro hSw); (try dsimp only at hSw); go_simp; try with_reducible rfl)
            simp only [Act.put, List.setIfInBounds_toArray, List.set_cons_zero, List.set_cons_succ]
            refine takeW 12 80 (v := ?_) rfl rfl (by decide) (by kernel_rfl) (by kernel_rfl) (by kernel_rfl) (fun _ _ _ h => h) (by rfl) ?_ (fun _ => hHeld) ?_
            rotate_left
            · (intro w; (try intro hSw); (try dsimp only at hSw); go_simp; try with_reducible rfl)
            simp only [Act.put, List.setIfInBounds_toArray, List.set_cons_zero, List.set_cons_succ]
            refine takeW 13 81 (v := ?_) rfl rfl (by decide) (by kernel_rfl) (by kernel_rfl) (by kernel_rfl) (fun _ _ _ h => h) (by rfl) ?_ (fun _ => hHeld) ?_
            rotate_left
            · (intro w; (try intro hSw); (try dsimp only at hSw); go_simp; try with_reducible rfl)
            simp only [Act.put, List.setIfInBounds_toArray, List.set_cons_zero, List.set_cons_succ]
            refine takeS 4 72 (v := ?_) rfl rfl (by decide) (by kernel_rfl) (by kernel_rfl) (by kernel_rfl) (by kernel_rfl) (by kernel_rfl) (fun _ _ _ h => h) (by rfl) ?_ hHeld ?_
            rotate_left
            · (intro w; (try intro hSw); (try dsimp only at hSw); go_simp; try with_reducible rfl)
            simp only [Act.put, List.setIfInBounds_toArray, List.set_cons_zero, List.set_cons_succ]
            refine takeS 10 78 (v := ?_) rfl rfl (by decide) (by kernel_rfl) (by kernel_rfl) (by kernel_rfl) (by kernel_rfl) (by kernel_rfl) (fun _ _ _ h => h) (by rfl) ?_ hHeld ?_
            rotate_left
            · (intro w; (try intro hSw); (try dsimp only at hSw); go_simp; try with_reducible rfl)
            simp only [Act.put, List.setIfInBounds_toArray, List.set_cons_zero, List.set_cons_succ]
            refine takeS 14 82 (v := ?_) rfl rfl (by decide) (by kernel_rfl) (by kernel_rfl) (by kernel_rfl) (by kernel_rfl) (by kernel_rfl) (fun _ _ _ h => h) (by rfl) ?_ hHeld ?_
            rotate_left
            · (intro w; (try intro hSw); (try dsimp only at hSw); go_simp; try with_reducible rfl)
            simp only [Act.put, List.setIfInBounds_toArray, List.set_cons_zero, List.set_cons_succ]
            refine stepC 15 (by kernel_rfl) rfl (fun K hK => ?_)
            go_simp
            (go_at_call 12; refine (HTk.out _ (Gr.refl _).drew).mono ?_; rintro e w4 ⟨⟨aT, cT, T, rfl, hfT, hTe⟩, hp4, hg4⟩; have n4 := hp4.pc.cf; have ns := hp4.pc.ck s hs; have n5 := hp4.pc.cn; have hTl : T.length ≤ 12 := by rw [← frs_len, hTe]; exact HTl.out)
            (try go_wp2_with fail)
            refine hK.out _ _ (by first | with_reducible exact hHeld | exact ⟨m4, ms, m5⟩ | exact ⟨n4, ns, n5⟩ | exact ⟨Gr.keep (by repeat(first|exact Gr.r _|refine Gr.a ?_|refine Gr.d ?_|refine Gr.t ?_ (by assumption))) k4, Gr.keep (by repeat(first|exact Gr.r _|refine Gr.a ?_|refine Gr.d ?_|refine Gr.t ?_ (by assumption))) ks, Gr.keep (by repeat(first|exact Gr.r _|refine Gr.a ?_|refine Gr.d ?_|refine Gr.t ?_ (by assumption))) k5⟩) (fun hHeldN => ?_)
            clear hHeld hK K
            have hHeld := hHeldN
            clear hHeldN
            obtain ⟨rowT, hcT⟩ := fxs_row hfT
            refine stepC 16 (by kernel_rfl) rfl (fun K hK => ?_)
            (refine step_append_at rfl (.tmp 72) (.tmp 83) 48 rfl w.heap.size 28 i0 _ 12 120 Try.underlying48 hi0 hz0 hz1 hz2 rfl (by decide) (.slice ad2 D.length cap2) D.length (D.flatMap fC) rfl hp4.pl.fx.own fC_len T aT cT rfl hcT rowT (f_one T) (by have := HDl.out; unfold maxLen; omega) (by have := HDl.out; omega) hp4.pl.gr.size ?_; intro v6 w6 ho6 hg6 hv6; obtain ⟨Y, ad6, cap6, hv6e, hpf, hpc6⟩ := pa_row (G := D ++ T) hp4.pl hp4.pc (fun x hx => (List.mem_append.1 hx).elim (fun h => hp4.pl.fx.nt x h) (fun h => hfT.nt x h)) (by rw [List.length_append, List.flatMap_append]; exact ho6) hg6 (hv6.elim Or.inl (fun h => Or.inr (fun b e => by rw [h] at e; cases e; omega))); subst hv6e; have m4 := hpc6.cf; have ms := hpc6.ck s hs; have m5 := hpc6.cn; have mf4 := hpc6.fz 4 (by omega); have ml := hpc6.lt)
            refine hK.out (Act.put _ (some 84) (.slice ad6 (D ++ T).length cap6)) _ (by first | with_reducible exact hHeld | exact ⟨m4, ms, m5⟩ | exact ⟨n4, ns, n5⟩ | exact ⟨Gr.keep (by repeat(first|exact Gr.r _|refine Gr.a ?_|refine Gr.d ?_|refine Gr.t ?_ (by assumption))) k4, Gr.keep (by repeat(first|exact Gr.r _|refine Gr.a ?_|refine Gr.d ?_|refine Gr.t ?_ (by assumption))) ks, Gr.keep (by repeat(first|exact Gr.r _|refine Gr.a ?_|refine Gr.d ?_|refine Gr.t ?_ (by assumption))) k5⟩) (fun hHeldN => ?_)
            clear hHeld hK K
            have hHeld := hHeldN
            clear hHeldN
            simp only [Act.put, List.setIfInBounds_toArray, List.set_cons_zero, List.set_cons_succ]
            refine takeW 17 85 (v := ?_) rfl rfl (by decide) (by kernel_rfl) (by kernel_rfl) (by kernel_rfl) (fun _ _ _ h => h) (by rfl) ?_ (fun _ => hHeld) ?_
            rotate_left
            · (intro w; (try intro hSw); (try dsimp only at hSw); go_simp; try with_reducible rfl)
            simp only [Act.put, List.setIfInBounds_toArray, List.set_cons_zero, List.set_cons_succ]
            refine takeW 18 86 (v := ?_) rfl rfl (by decide) (by kernel_rfl) (by kernel_rfl) (by kernel_rfl) (fun _ _ _ h => h) (by rfl) ?_ (fun _ => hHeld) ?_
            rotate_left
            · (intro w; (try intro hSw); (try dsimp only at hSw); go_simp; try with_reducible rfl)
            simp only [Act.put, List.setIfInBounds_toArray, List.set_cons_zero, List.set_cons_succ]
            refine stepS (by kernel_rfl) rfl (by kernel_rfl) (fun K hK => ?_)
            go_simp
            refine hK.out _ _ ?_
            clear hHeld hK K
            refine doneL (by kernel_rfl) ?_ _
            simp only [List.length_append] at hpf
            have HPg := Lib.hid hpf
            have HTe := Lib.hid hTe
            have HTm := Lib.hid hTl
            clear hpf hTe hp4 hg4 hfT hpc6 ho6 hg6 hv6 n4 ns n5 m4 ms m5 mf4 ml k4 ks k5 kl HTk
            go_wp2_with fail
            go_meet
            exact ⟨Y, g, upd l s (Lk.tickS CX (l s) ((i : Int) + 1)), vl, P, H, ad6, cap6, (D ++ T), (by rw [HCi.out]; exact HPg.out), ((by rw [frs_app, HTe.out]; exact HTw.out.tick hs HTt.out : Tw _ _ _ (frs (D ++ T)))).mono (by omega) (by omega), upd_ep HV.out (tick_ep _ _), (by rw [List.length_append]; have := HDl.out; have := HTm.out; omega)⟩
          by_cases p2 : vk = 2
          · skip
            subst p2
            by_cases h0 : (0 : Int) ≤ vw
            · skip
              obtain ⟨j, rfl⟩ : ∃ j : Nat, vw = (j : Int) := ⟨vw.toNat, by omega⟩
              clear h0
              by_cases h1 : j < D.length
              · skip
                have hw1 : (j : Int) < (D.length : Int) := by omega
                have hj0 : (0 : Int) ≤ (j : Int) := by omega
                obtain ⟨_, _, e5, _, _, hit, _⟩ := HPA.out.pl.fx.at
                cases e5
                have HMem : Hid (D[j].fr ∈ frs D) := List.mem_map.2 ⟨_, List.getElem_mem h1, rfl⟩
                obtain ⟨sF, tF, hsF, hstF, hfo⟩ := HTok.out _ HMem.out
                have HFo := Lib.hid hfo
                obtain ⟨b, off2, rfl, hbl2, c0, c1, c2, c3, c4, c5, c6, c7, c8, c9, c10, c11⟩ := FrsRow.at hit.row j h1
                have hmn := hit.nt D[j] (List.getElem_mem h1)
                clear hfo hit
                have HPt : Hid (∀ w', Gr wA w' → Calls Try.prog 16 #[.pointer (some ⟨gp, 0, none⟩), D[j].v] w' fun e w2 => PtkR Z w w' gp g l vl ((i : Int) + 1) P H (some ⟨b, off2, none⟩) cap2 D sF tF D[j].m.x (Lk.takeR CX (l tF) D[j].fr ((i : Int) + 1)) e w2) := fun w' k => ptake_any (HPA.out.up k) hsF (by omega) (HEq.out tF (by omega)) D[j] (hmn.gr k) HFo.out.1 HFo.out.2.1 (fun h => HFo.out.note h)
                have k4 := HPA.out.pc.cf
                have kl := HPA.out.pc.lt
                have HBn : Hid (¬ (b = g tF ∨ b = gp)) := by
                  have h5 := HPA.out.pl.rb b rfl
                  exact fun h => h.elim (fun e => h5.2.2 tF (by omega) e.symm) (fun e => h5.2.1 e)
                have HVn : Hid (¬ (gv = g tF ∨ gv = gp)) := fun h => h.elim (fun e => HGv.out.1 tF (by omega) e.symm) (fun e => HGv.out.2 e)
                clear hmn x0 x1 x2
                generalize D[j] = xf at *
                obtain ⟨ff, ft, fe, fs, fa, fc, ⟨⟨k5, r5, n5, L5, s5, y5⟩, ay, cy⟩⟩ := xf
                dsimp only [Mf.v] at *
                go_wp2_with fail
                refine wp_region_held_drew (S := (fun w' => w'.cell? ⟨gp, 4, none⟩ = some (.slice (some ⟨b, off2, none⟩) D.length cap2) ∧ w'.cell? ⟨gv, 3, none⟩ = some (.int .i64 (j : Int)) ∧ w'.cell? ⟨b, off2 + j * 12, none⟩ = some (.int .i64 ff) ∧ w'.cell? ⟨b, off2 + j * 12 + 1, none⟩ = some (.int .i64 ft) ∧ w'.cell? ⟨b, off2 + j * 12 + 2, none⟩ = some (.int .i64 fe) ∧ w'.cell? ⟨b, off2 + j * 12 + 3, none⟩ = some (.int .i64 fs) ∧ w'.cell? ⟨b, off2 + j * 12 + 4, none⟩ = some (.int .i64 fa) ∧ w'.cell? ⟨b, off2 + j * 12 + 5, none⟩ = some (.int .i64 fc) ∧ w'.cell? ⟨b, off2 + j * 12 + 6, none⟩ = some (.int .i64 k5) ∧ w'.cell? ⟨b, off2 + j * 12 + 7, none⟩ = some (.int .i64 r5) ∧ w'.cell? ⟨b, off2 + j * 12 + 8, none⟩ = some (.int .i64 n5) ∧ w'.cell? ⟨b, off2 + j * 12 + 9, none⟩ = some (.slice ay L5.length cy) ∧ w'.cell? ⟨b, off2 + j * 12 + 10, none⟩ = some (.string s5) ∧ w'.cell? ⟨b, off2 + j * 12 + 11, none⟩ = some (.int .i64 y5))) (by kernel_rfl) (by first | with_reducible exact hHeld | exact hS2 | exact hold_tk (S := fun b => b = g tF ∨ b = gp) (KB.ofGr (by repeat(first|exact Gr.r _|refine Gr.a ?_|refine Gr.d ?_|refine Gr.t ?_ (by assumption)))) xl hbl2 HVn.out HBn.out (Gr.keep (by repeat(first|exact Gr.r _|refine Gr.a ?_|refine Gr.d ?_|refine Gr.t ?_ (by assumption))) k4) x3 c0 c1 c2 c3 c4 c5 c6 c7 c8 c9 c10 c11) (fun hHeld => ?_)
                refine ty 0 89 hHeld ?_
                refine ty 1 90 hHeld ?_
                refine ty 2 91 hHeld ?_
                refine ty 3 92 hHeld ?_
                refine ty 4 93 hHeld ?_
                refine ty 5 94 hHeld ?_
                refine ty 6 95 hHeld ?_
                refine ty 7 96 hHeld ?_
                refine ty 8 97 hHeld ?_
                refine ty 9 98 hHeld ?_
                refine ty 10 99 hHeld ?_
                refine ty 11 100 hHeld ?_
                refine ty 12 101 hHeld ?_
                refine ty 13 102 hHeld ?_
                refine ty 14 103 hHeld ?_
                refine ty 15 104 hHeld ?_
                refine ty 16 105 hHeld ?_
                refine ty 17 106 hHeld ?_
                refine ty 18 107 hHeld ?_
                refine ty 19 108 hHeld ?_
                refine ty 20 109 hHeld ?_
                refine ty 21 110 hHeld ?_
                refine ty 22 111 hHeld ?_
                refine wpAnyH_ready (rs := [23]) (by kernel_rfl) (by simp) (AllReadyH.cons rfl (fun K hK => ?_) AllReadyH.nil)
                go_simp
                (go_at_call 16; refine (HPt.out _ (Gr.refl _).drew).mono ?_; rintro e wn hp; obtain ⟨rfl, H2, hpa2, hkb, hh0, hh1⟩ := hp; have hS2 := hold_tk ((KB.ofGr (Gr.refl wA).drew).trans hkb) xl hbl2 HVn.out HBn.out hpa2.pc.cf x3 c0 c1 c2 c3 c4 c5 c6 c7 c8 c9 c10 c11)
                (try go_wp2_with fail)
                refine hK.out _ _ (by first | with_reducible exact hHeld | exact hS2 | exact hold_tk (S := fun b => b = g tF ∨ b = gp) (KB.ofGr (by repeat(first|exact Gr.r _|refine Gr.a ?_|refine Gr.d ?_|refine Gr.t ?_ (by assumption)))) xl hbl2 HVn.out HBn.out (Gr.keep (by repeat(first|exact Gr.r _|refine Gr.a ?_|refine Gr.d ?_|refine Gr.t ?_ (by assumption))) k4) x3 c0 c1 c2 c3 c4 c5 c6 c7 c8 c9 c10 c11) (fun hHeldN => ?_)
                clear hHeld hK K
                have hHeld := hHeldN
                clear hHeldN
                refine ty 24 113 hHeld ?_
                refine ty 25 114 hHeld ?_
                refine wpAnyH_done (by kernel_rfl) ?_ _
                have HPf := Lib.hid hpa2
                have HH0 := Lib.hid hh0
                have HH1 := Lib.hid hh1
                clear hHeld hS2 hpa2 hkb hh0 hh1 k4 kl c0 c1 c2 c3 c4 c5 c6 c7 c8 c9 c10 c11 hbl2 HPt x3
                go_wp2_with fail
                go_meet
                exact ⟨Z, g, upd l tF (Lk.takeR CX (l tF) (Mf.fr ⟨ff, ft, fe, fs, fa, fc, ⟨⟨k5, r5, n5, L5, s5, y5⟩, ay, cy⟩⟩) ((i : Int) + 1)).2.2, vl, P, H2, _, _, D, (by rw [HCi.out]; exact HPf.out), (HTw.out.take hsF hstF HBd.out HTt.out HMem.out HFo.out.1).mono (by omega) (by omega), upd_ep HV.out (take_ep _ _ _), (by have := HDl.out; omega)⟩
              · skip
                have hw1 : ¬ ((j : Int) < (D.length : Int)) := by omega
                have hw2 : decide ((j : Int) < (D.length : Int)) = false := decide_eq_false hw1
                have hw3 : ¬ j < D.length := h1
                have hj0 : (0 : Int) ≤ (j : Int) := by omega
                have k4 := HPA.out.pc.cf
                have kl := HPA.out.pc.lt
                clear x0 x1 x2 h1
                go_wp2_with fail
                refine wp_region_held_drew (S := (fun w' => Gr wA w' ∧ w'.cell? ⟨gv, 3, none⟩ = some (.int .i64 (j : Int)) ∧ w'.cell? ⟨gp, 4, none⟩ = some (.slice ad2 D.length cap2))) (by kernel_rfl) (by exact ⟨(by repeat(first|exact Gr.r _|refine Gr.a ?_|refine Gr.d ?_|refine Gr.t ?_ (by assumption))), Gr.keep (by repeat(first|exact Gr.r _|refine Gr.a ?_|refine Gr.d ?_|refine Gr.t ?_ (by assumption))) x3, Gr.keep (by repeat(first|exact Gr.r _|refine Gr.a ?_|refine Gr.d ?_|refine Gr.t ?_ (by assumption))) k4⟩) (fun hHeld => ?_)
                refine ty 0 89 hHeld ?_
                refine ty 1 90 hHeld ?_
                refine ty 2 91 hHeld ?_
                refine ty 3 92 hHeld ?_
                refine ty 4 93 hHeld ?_
                refine ty 5 94 hHeld ?_
                refine ty 6 95 hHeld ?_
                refine ty 7 96 hHeld ?_
                refine ty 8 97 hHeld ?_
                refine ty 9 98 hHeld ?_
                refine ty 10 99 hHeld ?_
                refine ty 11 100 hHeld ?_
                refine ty 12 101 hHeld ?_
                refine ty 13 102 hHeld ?_
                refine tn 14 103 hHeld ?_
                refine tn 15 104 hHeld ?_
                refine tn 16 105 hHeld ?_
                refine tn 17 106 hHeld ?_
                refine tn 18 107 hHeld ?_
                refine tn 19 108 hHeld ?_
                refine tn 20 109 hHeld ?_
                refine tn 21 110 hHeld ?_
                refine tn 22 111 hHeld ?_
                refine tn 23 112 hHeld ?_
                refine tn 24 113 hHeld ?_
                refine ty 25 114 hHeld ?_
                refine wpAnyH_done (by kernel_rfl) ?_ _
                have HGn := Lib.hid hHeld.1
                clear hHeld
                go_wp2_with fail
                go_meet
                exact ⟨Z, g, l, vl, P, H, _, _, D, (by rw [HCi.out]; exact (HPA.out.up HGn.out)), (HTw.out).mono (by omega) (by omega), HV.out, (by have := HDl.out; omega)⟩
            · skip
              have hw0 : ¬ (0 : Int) ≤ vw := h0
              have hw1 : decide ((0 : Int) ≤ vw) = false := decide_eq_false h0
              have hw2 : vw < 0 := by omega
              clear x0 x1 x2
              go_wp2_with fail
              refine wp_region_held_drew (S := (fun w' => Gr wA w' ∧ w'.cell? ⟨gv, 3, none⟩ = some (.int .i64 vw))) (by kernel_rfl) (by exact ⟨(by repeat(first|exact Gr.r _|refine Gr.a ?_|refine Gr.d ?_|refine Gr.t ?_ (by assumption))), Gr.keep (by repeat(first|exact Gr.r _|refine Gr.a ?_|refine Gr.d ?_|refine Gr.t ?_ (by assumption))) x3⟩) (fun hHeld => ?_)
              refine ty 0 89 hHeld ?_
              refine ty 1 90 hHeld ?_
              refine ty 2 91 hHeld ?_
              refine ty 3 92 hHeld ?_
              refine tn 4 93 hHeld ?_
              refine tn 5 94 hHeld ?_
              refine tn 6 95 hHeld ?_
              refine tn 7 96 hHeld ?_
              refine tn 8 97 hHeld ?_
              refine tn 9 98 hHeld ?_
              refine tn 10 99 hHeld ?_
              refine tn 11 100 hHeld ?_
              refine ty 12 101 hHeld ?_
              refine ty 13 102 hHeld ?_
              refine tn 14 103 hHeld ?_
              refine tn 15 104 hHeld ?_
              refine tn 16 105 hHeld ?_
              refine tn 17 106 hHeld ?_
              refine tn 18 107 hHeld ?_
              refine tn 19 108 hHeld ?_
              refine tn 20 109 hHeld ?_
              refine tn 21 110 hHeld ?_
              refine tn 22 111 hHeld ?_
              refine tn 23 112 hHeld ?_
              refine tn 24 113 hHeld ?_
              refine ty 25 114 hHeld ?_
              refine wpAnyH_done (by kernel_rfl) ?_ _
              have HGn := Lib.hid hHeld.1
              clear hHeld
              go_wp2_with fail
              go_meet
              exact ⟨Z, g, l, vl, P, H, _, _, D, (by rw [HCi.out]; exact (HPA.out.up HGn.out)), (HTw.out).mono (by omega) (by omega), HV.out, (by have := HDl.out; omega)⟩
          by_cases p4 : vk = 4
          · skip
            subst p4
            have kv := HPA.out.pc.cv s hs
            have kf := HPA.out.pc.fz (2 + s) (by omega)
            have kl := HPA.out.pc.lt
            have hvs := HV.out s hs
            have hep := HTw.out.ep hs
            have hwr : wrap64 (vl s + 1) = vl s + 1 := wrap_small (by omega) (by have := HLen.out; omega)
            have HHvs := Lib.hid hvs
            have HHep := Lib.hid hep
            clear hvs hep x0 x1 x2 x3 xl
            go_upto_region 21 with fail
            go_region
            obtain ⟨wL, hwL⟩ : ∃ x, x = (wA.setCell ⟨gp, 2 + s, none⟩ (.int .i64 (vl s + 1))).drew := ⟨_, rfl⟩
            rw [← hwL]
            have HPL : Hid (Pa Z w wL gp g l (upd vl s (vl s + 1)) ((i : Int) + 1) P H ad2 cap2 D) := by
              show Pa _ _ _ _ _ _ _ _ _ _ _ _ _
              rw [hwL]
              exact (HPA.out.setV hs _).up (Gr.refl _).drew
            clear hwL kv kf hwr
            have kv : wL.cell? ⟨gp, 2 + s, none⟩ = some (.int .i64 (vl s + 1)) := by have := HPL.out.pc.cv s hs; rw [upd_same] at this; exact this
            have kl := HPL.out.pc.lt
            have hb1 : wrap64 (1 - (s : Int)) = 1 - (s : Int) := wrap_small (by omega) (by omega)
            have HNw : Hid (∀ w', Calls Try.prog 17 #[.int .i64 (s : Int), .int .i64 (1 - (s : Int)), .int .i64 (vl s + 1)] w' fun e w2 => ∃ g, e = .returned (.tuple #[.pointer (some ⟨g, 0, none⟩), .int .i64 0]) ∧ (∀ Z, ¬ Z g → PkAt Z w2 g (Lk.new (s : Int) (1 - (s : Int)) (vl s + 1))) ∧ w'.heap.size ≤ g ∧ Gr w' w2) := fun w' => awn _ _ _ w' (decide_eq_true (by have := HHvs.out; have := HHep.out; have := HLen.out; omega))
            generalize vl s = vls at *
            go_wp2_with fail
            refine (HNw.out _).mono ?_
            rintro e2 w2 ⟨gn, rfl, hn2, hgn, hg2⟩
            have HPf := Lib.hid (pa_life HPL.out hs hg2 hn2 hgn)
            have hp2 := HPL.out.up hg2
            have ks := hp2.pc.ck s hs
            have kf := hp2.pc.fz s (by omega)
            have kl := hp2.pc.lt
            clear hn2 hgn hg2 kv hp2 HNw
            go_wp2_with fail
            go_meet
            refine ⟨_, upd g s gn, upd l s (Lk.new (s : Int) (1 - (s : Int)) ((l s).ep + 1)), _, P, H, ad2, cap2, D, (by rw [HCi.out, ← HHvs.out]; exact HPf.out), (HTw.out.life hs).mono (by omega) (by omega), ?_, (by have := HDl.out; omega)⟩
            intro t ht
            by_cases e : t = s
            · subst e; rw [upd_same, upd_same, ← HHvs.out]; rfl
            · rw [upd_other _ _ e, upd_other _ _ e]; exact HV.out t ht
          · skip
            have q0 : (vk == 0) = false := by rw [beq_eq_false_iff_ne]; exact p0
            have q1 : (vk == 1) = false := by rw [beq_eq_false_iff_ne]; exact p1
            have q2 : (vk == 2) = false := by rw [beq_eq_false_iff_ne]; exact p2
            have q4 : (vk == 4) = false := by rw [beq_eq_false_iff_ne]; exact p4
            clear p0 p1 p2 p4
            go_wp2_with fail
            go_meet
            exact ⟨Z, g, l, vl, P, H, ad2, cap2, D, (by rw [HCi.out]; exact HPA.out), (HTw.out).mono (by omega) (by omega), HV.out, (by have := HDl.out; omega)⟩
        case rest =>
          obtain ⟨Z2, g2, l2, vl2, P2, H2, ad3, cap3, D2, hpa, htw, hvl, hD⟩ := hcut
          have k4 := hpa.pc.cf
          have kl := hpa.pc.lt
          have HPr := Lib.hid hpa
          have HTr := Lib.hid htw
          have HVr := Lib.hid hvl
          clear hpa htw hvl x0 x1 x2 x3 xl
          by_cases hb : 400 < D2.length
          · skip
            have hb1 : (400 : Int) < (D2.length : Int) := by omega
            go_wp2_with fail
            refine (HA.out _).mono ?_
            rintro e4 w4 ⟨rfl, hg4⟩
            go_wp2
            go_ret
            exact ⟨rfl, HPr.out.pl.gr.trans hg4⟩
          · skip
            have hb1 : ¬ (400 : Int) < (D2.length : Int) := by omega
            go_wp2
            go_roundw
            case rel => exact ⟨i + 1, by go_num, by omega, Z2, g2, l2, vl2, P2, H2, ad3, cap3, D2, HPr.out, HTr.out, HVr.out, by omega⟩
            case measure => simp [intOf]; omega
      · have hge : ¬ ((i : Int) < (E.length : Int)) := by omega
        have HRd : Hid (RdI w wr gp 0) := by
          refine ⟨Z, g, l, vl, (i : Int), 14 + (i : Int), P, H, ad2, cap2, D, HP.out, HT.out.frames (by simp), by have := HLen.out; omega, by omega, by have := HLen.out; omega, ?_, ?_⟩
          · exact Lk.rem_start HT.out.l (by omega)
          · exact Lk.rem_start HT.out.r (by omega)
        clear HP HT HV HDl
        go_wp2
        go_loopw [10] (fun s10 wq => ∃ r : Nat, s10 = .int .i64 r ∧ r ≤ 40 ∧ RdI w wq gp r) (fun s10 _ => 40 - (intOf s10).toNat)
        case atStart => exact ⟨0, rfl, by omega, HRd.out⟩
        case round =>
          obtain ⟨r, rfl, hr, hrd⟩ := hrel
          have HRr := Lib.hid hrd
          clear hrd HRd
          by_cases hr4 : r < 40
          · have hr5 : (r : Int) < 40 := by omega
            have HRn := Lib.hid (rounds_any HRr.out hr4)
            go_wp2_with fail
            refine HRn.out.mono ?_
            rintro e4 w4 ⟨rfl, hrd4⟩
            have HR4 := Lib.hid hrd4
            clear hrd4 HRn
            go_wp2
            go_roundw
            case rel => exact ⟨r + 1, by go_num, by omega, HR4.out⟩
            case measure => simp [intOf]; omega
          · have hr5 : ¬ (r : Int) < 40 := by omega
            obtain rfl : r = 40 := by omega
            obtain ⟨Z2, g2, l2, vl2, now2, B2, P2, H2, ad3, cap3, D2, hp, ht2, hB2, hn0, hn1, ra, rb⟩ := HRr.out
            have e1 := Lk.rem_end (t := now2) (x := l2 0) (y := l2 1) (by have := ra; simpa using this)
            have e2 := Lk.rem_end (t := now2) (x := l2 1) (y := l2 0) (by have := rb; simpa using this)
            have HPq := Lib.hid hp
            have c0 := hp.pc.ck 0 (by omega)
            have c1 := hp.pc.ck 1 (by omega)
            have cl := hp.pc.lt
            have hq0 := ht2.ep (s := 0) (by omega)
            have hq1 := ht2.ep (s := 1) (by omega)
            have HW0 : Hid (Calls Try.prog 10 #[.pointer (some ⟨g2 0, 0, none⟩)] wr fun e w2 => e = .returned (.int .i64 0) ∧ w2 = wr) := by
              have := kWaiting_any (g2 0) (l2 0) wr (hp.pl.pk 0 (by omega)) (by omega)
              rw [e1] at this
              exact this
            have HW1 : Hid (Calls Try.prog 10 #[.pointer (some ⟨g2 1, 0, none⟩)] wr fun e w2 => e = .returned (.int .i64 0) ∧ w2 = wr) := by
              have := kWaiting_any (g2 1) (l2 1) wr (hp.pl.pk 1 (by omega)) (by omega)
              rw [e2] at this
              exact this
            clear hp ht2 ra rb e1 e2 hq0 hq1 HRr
            go_wp2_with fail
            refine HW0.out.mono ?_
            rintro e5 w5 ⟨rfl, hw5⟩; obtain rfl := hw5.symm
            clear hw5
            go_wp2_with fail
            refine HW1.out.mono ?_
            rintro e6 w6 ⟨rfl, hw6⟩; obtain rfl := hw6.symm
            clear hw6
            go_wp2_with fail
            refine (HA.out _).mono ?_
            rintro e7 w7 ⟨rfl, hg7⟩
            go_wp2
            go_ret
            exact ⟨rfl, HPq.out.pl.gr.trans hg7⟩

set_option maxRecDepth 100000 in
theorem linkFair_lifted (os : Os) (started : os.Started) (H : Type) (enc : TypeId × Value → H) :
    ReturnsInHanded {} Try.checked os 5 .any (Rows.linkFairSpec.pre6 enc Try.prog Try.f5 Rows.linkFairRow.domain false) (Rows.linkFairSpec.post enc Try.prog Try.f5 false true false false) := by
  refine returnsInHanded_of_change (C := Try.checked) own2 started (by kernel_rfl) Try.func5
    (ChangeSpec.witness6 (enc := enc) (C := Try.checked) false ⟨#[], #[.slice none 0 0], []⟩ 8 (by kernel_rfl) (by kernel_rfl) (by kernel_rfl) (by kernel_rfl)) ?_
  intro W base args ds gs before hval0 hW hcnd _
  have hval : ∀ (j : Nat) t v, Try.f5.params[j]? = some t → args[j]? = some v → Value.okWide Try.prog W .any base t v := hval0
  have hW' := hW
  obtain ⟨p, q, hA0, hV, rfl, hfz, hnd⟩ := hW
  have hA : DataW.TrodAll enc Try.prog W 0 (fun _ => true) true Try.f5.params.toList args.toList ds p := hA0
  rw [Try.params5] at hA hval
  obtain ⟨v0, d0, rfl, rfl, q0⟩ := trodAll_one hA
  obtain ⟨rfl, rfl⟩ := trodVars_none hV
  have k0 := q0
  have lt0 : ∀ x ∈ p, x.block < W.heap.size := by obtain ⟨m, hm⟩ := k0; exact DataW.trod_lt m _ _ _ hm
  obtain ⟨ad0, cap0, D0, rfl, hD0, hn0, hi0⟩ := open_evs (hval 0 52 v0 rfl rfl) q0
  clear hA0 hval0
  refine (linkFair_walk D0 ad0 cap0 W hD0 hn0 hi0).mono fun e W' ⟨he, hg⟩ => ?_
  subst he
  exact ⟨_, rfl, _, _, _, [], _, [], hW', trodAll_mk1 (shut_bool Try.underlying4 _), trodAll_mk1 (Below.trod laidOut2 (by kernel_rfl) (of_decide_eq_true (by kernel_rfl)) k0 hg.below lt0), rfl, hg.below.frame _, fun h => by cases h⟩

theorem linkFair_holds : Rows.LinkFairSaid :=
  OpenClaim.holds_of_wide 5 Try.f5 rfl rfl rfl rfl rfl rfl rfl ⟨rfl, rfl, rfl, rfl, rfl⟩ rfl rfl rfl rfl rfl (by kernel_rfl) Try.func5 (by kernel_rfl)
    (of_decide_eq_true (by kernel_rfl)) (by unfold Func.isWrapper; first | (rw [if_pos (by decide +kernel)]; kernel_rfl) | (rw [if_neg (by decide +kernel)]; exact ⟨rfl, rfl⟩))
    (fun os started H enc _ => linkFair_lifted os started H enc)
end Go.Proofs.Ythfbpilfdfploaa
