/- Parts of these proofs, laid together. -/
import Derived.Test.YthfbpilfdfploaaGreatGL
namespace Go.Proofs.YthfbpilfdfploaaGreat
open Go.RowKit
open Lk (St)

variable {Z : Nat → Prop}
set_option maxHeartbeats 8000000 in
set_option maxRecDepth 100000 in
theorem rSend_any (g : Nat) (l : St Nx) (now : Int) (Q : List Mn) (adQ : Option Addr) (capQ : Nat) (w : World) (h : LkAt Z w g l) (hF : Frs Z w) (hQ : NtsAt Z w adQ Q) (hnQ : Q.length ≤ 9223372036854775807) :
    Calls Tryz.prog 9 #[.pointer (some ⟨g, 0, none⟩), .int .i64 now, .slice adQ Q.length capQ] w fun e w' => e = .returned (.int .i64 (Lk.sendE CX l now (pks Q))) ∧ LkAt Z w' g (Lk.sendS CX l now (pks Q)) ∧ GB g w w' := by
  obtain ⟨a, c, E, a2, c2, h⟩ := h
  have HL := Lib.hid h
  have hFw := Lib.hid hF
  have HEn : Hid (∀ m ∈ Q, ∀ w', Gr w w' → Calls Tryz.prog 26 #[m.v] w' fun e w2 => e = .returned (.tuple #[.int .i64 (Nt.ends1 m.x), .int .i64 (Nt.ends2 m.x)]) ∧ Gr w' w2) := fun m hm w' k => refNEnds_any m.x.k m.x.r m.x.n m.x.L m.x.d m.x.y m.ad m.cap w' ((hQ.nt m hm).hp.gr k) (hQ.nt m hm).hl (hQ.nt m hm).hd
  have HP : Hid (∀ w', Gr w w' → Calls Tryz.prog 27 #[.slice a E.length c, .int .i64 l.nx, .int .i64 now, .slice adQ Q.length capQ] w' fun e w2 => PtR Z w' (Ox.push okN l.it l.nx now (pks Q)) e w2) := fun w' k => by
    have := rPush_any E l.nx now Q a c adQ capQ w' (h.rw.row.gr k) h.rw.ec h.rw.en (hQ.gr k) hnQ
    rw [h.rw.e] at this
    exact this
  have HQ := Lib.hid hQ.row
  have HS1 : Hid ((∀ (j : Nat) (hj : j < Q.length), Nt.ends1 Q[j].x = l.me ∧ Nt.ends2 Q[j].x = l.wi) → Lk.sendE CX l now (pks Q) = (Ox.push okN l.it l.nx now (pks Q)).2) := by
    intro hall
    unfold Lk.sendE
    rw [if_pos]
    · rfl
    · rw [List.all_eq_true]
      intro p hp
      obtain ⟨m, hm, rfl⟩ := List.mem_map.1 hp
      obtain ⟨j, hj, rfl⟩ := List.getElem_of_mem hm
      obtain ⟨e1, e2⟩ := hall j hj
      show (decide (Nt.ends1 (unP (pk Q[j].x)) = l.me) && decide (Nt.ends2 (unP (pk Q[j].x)) = l.wi)) = true
      rw [un_pk, e1, e2]
      simp
  have HS0 : Hid ((∃ (j : Nat) (hj : j < Q.length), ¬ (Nt.ends1 Q[j].x = l.me ∧ Nt.ends2 Q[j].x = l.wi)) → Lk.sendE CX l now (pks Q) = 130 ∧ Lk.sendS CX l now (pks Q) = l) := by
    rintro ⟨j, hj, hno⟩
    have e1 : Lk.sendE CX l now (pks Q) = 130 := by
      unfold Lk.sendE
      rw [if_neg]
      intro hall
      rw [List.all_eq_true] at hall
      have := hall (pk Q[j].x) (List.mem_map.2 ⟨_, List.getElem_mem hj, rfl⟩)
      have h2 : (decide (Nt.ends1 (unP (pk Q[j].x)) = l.me) && decide (Nt.ends2 (unP (pk Q[j].x)) = l.wi)) = true := this
      rw [un_pk, Bool.and_eq_true, decide_eq_true_eq, decide_eq_true_eq] at h2
      exact hno h2
    refine ⟨e1, ?_⟩
    unfold Lk.sendS
    rw [e1]; rfl
  have HSS : Hid (Lk.sendS CX l now (pks Q) = if Lk.sendE CX l now (pks Q) = 0 then { l with it := (Ox.push okN l.it l.nx now (pks Q)).1, nx := Ox.next (Ox.push okN l.it l.nx now (pks Q)).1 l.nx } else l) := rfl
  have HRq : Hid (∀ x ∈ (Ox.push okN l.it l.nx now (pks Q)).1, 1 ≤ x.q ∧ x.q ≤ 1000000000) := by
    intro x hx
    unfold Ox.push at hx
    split at hx
    · rename_i hc
      have hmy := Ox.pushF_may (ok := okN) hc.2.2.1 hc.2.1 (pks Q) l.it ((Ox.mayB_iff _ _).1 hc.1)
      exact ((Ox.one_iff _ _).1 (hmy.all x hx)).1
    · cases hx
  generalize Lk.sendE CX l now (pks Q) = S at *
  generalize Lk.sendS CX l now (pks Q) = S' at *
  generalize Ox.push okN l.it l.nx now (pks Q) = R at *
  have hlt0 := h.cs.lt
  clear h hQ hF
  obtain ⟨me, wi, ep, kn, it, nx, wn, ow⟩ := l
  dsimp only at *
  unfold PtR at HP
  go_enter Tryz.func9, Tryz.ntmps9
  go_wp2
  go_loopw [7] (fun s7 wr => ∃ j : Nat, s7 = .int .i64 j ∧ j ≤ Q.length ∧ (∀ (i : Nat) (hi : i < Q.length), i < j → Nt.ends1 Q[i].x = me ∧ Nt.ends2 Q[i].x = wi) ∧ Gr w wr) (fun s7 _ => Q.length - (intOf s7).toNat)
  case atStart => exact ⟨0, rfl, Nat.zero_le _, fun i _ hi => absurd hi (Nat.not_lt_zero _), Gr.refl _⟩
  case round =>
    obtain ⟨j, rfl, hj, hall, hg⟩ := hrel
    have HG := Lib.hid hg
    have HA := Lib.hid hall
    have hl := HL.out.gr hg
    have HLr := Lib.hid hl
    have k0 := hl.cs.at_ 0 _ rfl
    have k1 := hl.cs.at_ 1 _ rfl
    have kl := hl.cs.lt
    clear hall hl
    by_cases hlt : j < Q.length
    · obtain ⟨b, off, rfl, hbl, d0, d1, d2, d3, d4, d5⟩ := NtsRow.at HQ.out j hlt
      have d0 := hg.keep d0
      have d1 := hg.keep d1
      have d2 := hg.keep d2
      have d3 := hg.keep d3
      have d4 := hg.keep d4
      have d5 := hg.keep d5
      have hbw : b < wr.heap.size := Nat.lt_of_lt_of_le hbl hg.size
      have hji : (j : Int) < (Q.length : Int) := by omega
      have hj0 : (0 : Int) ≤ (j : Int) := by omega
      have HX := Lib.hid (HEn.out Q[j] (List.getElem_mem hlt))
      have HN0 : Hid (¬ (Nt.ends1 Q[j].x = me ∧ Nt.ends2 Q[j].x = wi) → S = 130 ∧ S' = ⟨me, wi, ep, kn, it, nx, wn, ow⟩) := fun hno => HS0.out ⟨j, hlt, hno⟩
      have HN1 : Hid ((Nt.ends1 Q[j].x = me ∧ Nt.ends2 Q[j].x = wi) → ∀ (i : Nat) (hi : i < Q.length), i < j + 1 → Nt.ends1 Q[i].x = me ∧ Nt.ends2 Q[i].x = wi) := by
        intro hy i hi hij
        by_cases e : i = j
        · subst e; exact hy
        · exact HA.out i hi (by omega)
      clear hg
      generalize Q[j] = m at *
      generalize Nt.ends1 m.x = x1 at *
      generalize Nt.ends2 m.x = x2 at *
      obtain ⟨⟨k0', r, n, L, dt, y⟩, ax, cx⟩ := m
      dsimp only [Mn.v] at *
      generalize L.length = ll at *
      go_wp2_with fail
      refine (HX.out _ HG.out).mono ?_
      rintro e1 w1 ⟨rfl, hg1⟩
      have k0 := hg1.keep k0
      have k1 := hg1.keep k1
      have kl := Nat.lt_of_lt_of_le kl hg1.size
      have HG1 := Lib.hid (HG.out.trans hg1)
      have HL1 := Lib.hid (HLr.out.gr hg1)
      clear hg1 d0 d1 d2 d3 d4 d5
      by_cases q1 : x1 = me
      · have q1b : (x1 == me) = true := by rw [beq_iff_eq]; exact q1
        by_cases q2 : x2 = wi
        · have q2b : (x2 == wi) = true := by rw [beq_iff_eq]; exact q2
          have HN := Lib.hid (HN1.out ⟨q1, q2⟩)
          subst q1 q2
          go_wp2
          go_roundw
          case rel => exact ⟨j + 1, by go_num, by omega, HN.out, HG1.out⟩
          case measure => simp [intOf]; omega
        · have q2b : (x2 == wi) = false := by rw [beq_eq_false_iff_ne]; exact q2
          have HN := Lib.hid (HN0.out (fun z => q2 z.2))
          subst q1
          clear q2
          go_wp2
          go_ret
          exact ⟨by rw [HN.out.1]; rfl, by rw [HN.out.2]; exact ⟨_, _, _, _, _, HL1.out⟩, GB.ofGr HG1.out⟩
      · have q1b : (x1 == me) = false := by rw [beq_eq_false_iff_ne]; exact q1
        have HN := Lib.hid (HN0.out (fun z => q1 z.1))
        clear q1
        go_wp2
        go_ret
        exact ⟨by rw [HN.out.1]; rfl, by rw [HN.out.2]; exact ⟨_, _, _, _, _, HL1.out⟩, GB.ofGr HG1.out⟩
    · have hge : ¬ ((j : Int) < (Q.length : Int)) := by omega
      have HSe := Lib.hid (HS1.out (fun i hi => HA.out i hi (by omega)))
      have k4 := HLr.out.cs.at_ 4 _ rfl
      have k5 := HLr.out.cs.at_ 5 _ rfl
      clear hg k0 k1
      dsimp only at k4 k5
      go_wp2_with fail
      refine wp_region_held_drew (S := (fun w' => Gr wr w' ∧ w'.cell? ⟨g, 4, none⟩ = some (.slice a E.length c) ∧ w'.cell? ⟨g, 5, none⟩ = some (.int .i64 nx))) (by kernel_rfl) (by exact ⟨(by repeat(first|exact Gr.r _|refine Gr.a ?_|refine Gr.d ?_|refine Gr.t ?_ (by assumption))), Gr.keep (by repeat(first|exact Gr.r _|refine Gr.a ?_|refine Gr.d ?_|refine Gr.t ?_ (by assumption))) k4, Gr.keep (by repeat(first|exact Gr.r _|refine Gr.a ?_|refine Gr.d ?_|refine Gr.t ?_ (by assumption))) k5⟩) (fun hHeld => ?_)
      refine ty 0 41 hHeld ?_
      refine ty 1 42 hHeld ?_
      refine ty 2 43 hHeld ?_
      refine ty 3 44 hHeld ?_
      refine ty 4 45 hHeld ?_
      refine ty 5 46 hHeld ?_
      refine ty 6 47 hHeld ?_
      refine ty 7 48 hHeld ?_
      refine ty 8 49 hHeld ?_
      refine ty 9 50 hHeld ?_
      refine wpAnyH_ready (rs := [10]) (by kernel_rfl) (by simp) (AllReadyH.cons rfl (fun K hK => ?_) AllReadyH.nil)
      go_simp
      (go_at_call 27; refine (HP.out _ (HG.out.trans hHeld.1)).mono ?_; rintro e1 w1 ⟨b, d, F, rfl, hb, he, hg1⟩)
      (try go_wp2_with fail)
      refine hK.out _ _ (by exact ⟨(by repeat(first|exact Gr.r _|refine Gr.a ?_|refine Gr.d ?_|refine Gr.t ?_ (by assumption))), Gr.keep (by repeat(first|exact Gr.r _|refine Gr.a ?_|refine Gr.d ?_|refine Gr.t ?_ (by assumption))) k4, Gr.keep (by repeat(first|exact Gr.r _|refine Gr.a ?_|refine Gr.d ?_|refine Gr.t ?_ (by assumption))) k5⟩) (fun hHeldN => ?_)
      clear hHeld hK K
      have hHeld := hHeldN
      clear hHeldN
      refine ty 11 40 hHeld ?_
      refine ty 12 52 hHeld ?_
      refine ty 13 53 hHeld ?_
      refine ty 14 10 hHeld ?_
      refine ty 15 11 hHeld ?_
      refine wpAnyH_done (by kernel_rfl) ?_ _
      have HL1 := Lib.hid (HLr.out.gr hHeld.1)
      have HG1 := Lib.hid (HG.out.trans hHeld.1)
      have hN := hb.pts (fun b hb' => hFw.out.gr HG.out b (by simpa using hb'))
      have k4 := hHeld.2.1
      have f4 := HL1.out.cs.fz 4 (by simp)
      have kl1 := HL1.out.cs.lt
      have HFe := Lib.hid he
      have HN := Lib.hid hN
      clear hHeld hb he hg1 hN HP HEn HS0 HA
      by_cases hz : R.2 = 0
      · have HS2 : Hid (S = 0 ∧ S' = ⟨me, wi, ep, kn, its F, Ox.next (its F) nx, wn, ow⟩) := by
          have e1 : S = 0 := HSe.out.trans hz
          refine ⟨e1, ?_⟩
          rw [HSS.out, if_pos e1, HFe.out]
        have HI := Lib.hid (HL1.out.items HN.out)
        have HGB : Hid (GB g w (w1.setCell ⟨g, 4, none⟩ (.slice b F.length d))) := (GB.ofGr HG1.out).setNew _ _ (Or.inr rfl)
        have HQr : Hid (∀ x ∈ F, 1 ≤ x.q ∧ x.q ≤ 1000000000) := fun x hx => by
          have := HRq.out x.it (by rw [← HFe.out]; exact List.mem_map.2 ⟨x, hx, rfl⟩)
          exact this
        have hzb : (R.2 == 0) = true := by rw [beq_iff_eq]; exact hz
        have m5 := HI.out.cs.at_ 5 _ rfl
        have mf5 := HI.out.cs.fz 5 (by simp)
        have ml := HI.out.cs.lt
        dsimp only at m5
        clear hz k5 HSe HSS HRq
        by_cases hF0 : F.length = 0
        · have hFn0 : F = [] := List.length_eq_zero_iff.1 hF0
          have HNx : Hid (Ox.next (its F) nx = nx) := by rw [hFn0]; exact next_none nx
          have hd0 : ¬ (0 : Int) < (F.length : Int) := by omega
          have hd1 : ¬ 0 < F.length := by omega
          have hd2 : decide (0 < F.length) = false := decide_eq_false hd1
          have hd3 : decide ((0 : Int) < (F.length : Int)) = false := decide_eq_false hd0
          clear hFn0 hF0
          go_wp2_with fail
          obtain ⟨W2, hW2⟩ : ∃ W2, W2 = w1.setCell ⟨g, 4, none⟩ (.slice b F.length d) := ⟨_, rfl⟩
          rw [← hW2] at HI HGB m5 mf5 ml ⊢
          clear hW2
          refine wp_region_held_drew (S := (fun w' => Gr W2 w')) (by kernel_rfl) (by exact (by repeat(first|exact Gr.r _|refine Gr.a ?_|refine Gr.d ?_|refine Gr.t ?_ (by assumption)))) (fun hHeld => ?_)
          refine ty 0 61 hHeld ?_
          refine ty 1 62 hHeld ?_
          refine ty 2 63 hHeld ?_
          refine ty 3 64 hHeld ?_
          refine tn 4 65 hHeld ?_
          refine tn 5 66 hHeld ?_
          refine tn 6 67 hHeld ?_
          refine tn 7 68 hHeld ?_
          refine tn 8 69 hHeld ?_
          refine tn 9 70 hHeld ?_
          refine tn 10 71 hHeld ?_
          refine tn 11 72 hHeld ?_
          refine tn 12 73 hHeld ?_
          refine tn 13 74 hHeld ?_
          refine tn 14 75 hHeld ?_
          refine tn 15 76 hHeld ?_
          refine ty 16 77 hHeld ?_
          refine wpAnyH_done (by kernel_rfl) ?_ _
          go_wp2
          go_ret
          exact ⟨by rw [HS2.out.1]; rfl, by rw [HS2.out.2, HNx.out]; exact ⟨_, _, _, _, _, HI.out.gr hHeld⟩, HGB.out.gr hHeld⟩
        · obtain ⟨e1, he1⟩ : ∃ e1, F.length = e1 + 1 := ⟨F.length - 1, by omega⟩
          have hnx := next_at he1 nx
          have hq1 := HQr.out F[e1] (List.getElem_mem (by omega))
          have hFne : F ≠ [] := fun k => hF0 (by rw [k]; rfl)
          obtain ⟨ob, oo, eo, hol, o0, orest⟩ := ItsRow.at HN.out.row.row e1 (by omega)
          have hog : ob ≠ g := fun k => HL1.out.nz (by rw [← k]; exact HN.out.na hFne _ eo)
          cases eo
          have o0 : (w1.setCell ⟨g, 4, none⟩ (.slice (some ⟨ob, oo, none⟩) F.length d)).cell? ⟨ob, oo + e1 * 9, none⟩ = some (.int .i64 F[e1].q) := by
            rw [World.cell?_setCell_far _ _ _ _ (by simpa using hog.symm)]; exact o0
          have hd0 : (0 : Int) < (F.length : Int) := by omega
          have hd1 : 0 < F.length := by omega
          have hz4 : (F.length : Int) - 1 = (e1 : Int) := by omega
          have hz5 : (e1 : Int) < (F.length : Int) := by omega
          have hz6 : (0 : Int) ≤ (e1 : Int) := by omega
          have hFl := HN.out.en
          have hz3 : IntKind.i64.wrap (e1 : Int) = (e1 : Int) := by rw [IntKind.wrap_i64]; omega
          have hol2 : ob < (w1.setCell ⟨g, 4, none⟩ (.slice (some ⟨ob, oo, none⟩) F.length d)).heap.size := by simpa using hol
          clear orest hF0 hFne HQr
          generalize F[e1].q = q1 at *
          by_cases hnq : nx ≤ q1
          · have HNx : Hid (Ox.next (its F) nx = q1 + 1) := by show _ = _; rw [hnx, if_pos hnq]
            clear hnx he1
            go_wp2_with fail
            obtain ⟨W2, hW2⟩ : ∃ W2, W2 = w1.setCell ⟨g, 4, none⟩ (.slice (some ⟨ob, oo, none⟩) F.length d) := ⟨_, rfl⟩
            rw [← hW2] at HI HGB m5 mf5 ml o0 hol2 ⊢
            clear hW2
            refine wp_region_held_drew (S := (fun w' => Gr W2 w' ∧ w'.cell? ⟨g, 5, none⟩ = some (.int .i64 nx) ∧ w'.cell? ⟨ob, oo + e1 * 9, none⟩ = some (.int .i64 q1))) (by kernel_rfl) (by exact ⟨(by repeat(first|exact Gr.r _|refine Gr.a ?_|refine Gr.d ?_|refine Gr.t ?_ (by assumption))), Gr.keep (by repeat(first|exact Gr.r _|refine Gr.a ?_|refine Gr.d ?_|refine Gr.t ?_ (by assumption))) m5, Gr.keep (by repeat(first|exact Gr.r _|refine Gr.a ?_|refine Gr.d ?_|refine Gr.t ?_ (by assumption))) o0⟩) (fun hHeld => ?_)
            refine ty 0 61 hHeld ?_
            refine ty 1 62 hHeld ?_
            refine ty 2 63 hHeld ?_
            refine ty 3 64 hHeld ?_
            refine ty 4 65 hHeld ?_
            refine ty 5 66 hHeld ?_
            refine ty 6 67 hHeld ?_
            refine ty 7 68 hHeld ?_
            refine ty 8 69 hHeld ?_
            refine ty 9 70 hHeld ?_
            refine ty 10 71 hHeld ?_
            refine ty 11 72 hHeld ?_
            refine ty 12 73 hHeld ?_
            refine ty 13 74 hHeld ?_
            refine ty 14 75 hHeld ?_
            refine ty 15 76 hHeld ?_
            refine ty 16 77 hHeld ?_
            refine wpAnyH_done (by kernel_rfl) ?_ _
            have HI3 := Lib.hid (HI.out.gr hHeld.1)
            have HGB3 := Lib.hid (HGB.out.gr hHeld.1)
            have n5 := hHeld.2.1
            have p5 := hHeld.2.2
            have nf5 := HI3.out.cs.fz 5 (by simp)
            have nl := HI3.out.cs.lt
            have hol3 := Nat.lt_of_lt_of_le hol2 hHeld.1.size
            clear hHeld m5 mf5 ml o0 hol2 HI HGB
            go_wp2
            go_ret
            exact ⟨by rw [HS2.out.1]; rfl, by rw [HS2.out.2, HNx.out]; exact ⟨_, _, _, _, _, HI3.out.next _⟩, HGB3.out.setNew _ _ (Or.inr rfl)⟩
          · have HNx : Hid (Ox.next (its F) nx = nx) := by show _ = _; rw [hnx, if_neg hnq]
            clear hnx he1
            go_wp2_with fail
            obtain ⟨W2, hW2⟩ : ∃ W2, W2 = w1.setCell ⟨g, 4, none⟩ (.slice (some ⟨ob, oo, none⟩) F.length d) := ⟨_, rfl⟩
            rw [← hW2] at HI HGB m5 mf5 ml o0 hol2 ⊢
            clear hW2
            refine wp_region_held_drew (S := (fun w' => Gr W2 w' ∧ w'.cell? ⟨g, 5, none⟩ = some (.int .i64 nx) ∧ w'.cell? ⟨ob, oo + e1 * 9, none⟩ = some (.int .i64 q1))) (by kernel_rfl) (by exact ⟨(by repeat(first|exact Gr.r _|refine Gr.a ?_|refine Gr.d ?_|refine Gr.t ?_ (by assumption))), Gr.keep (by repeat(first|exact Gr.r _|refine Gr.a ?_|refine Gr.d ?_|refine Gr.t ?_ (by assumption))) m5, Gr.keep (by repeat(first|exact Gr.r _|refine Gr.a ?_|refine Gr.d ?_|refine Gr.t ?_ (by assumption))) o0⟩) (fun hHeld => ?_)
            refine ty 0 61 hHeld ?_
            refine ty 1 62 hHeld ?_
            refine ty 2 63 hHeld ?_
            refine ty 3 64 hHeld ?_
            refine ty 4 65 hHeld ?_
            refine ty 5 66 hHeld ?_
            refine ty 6 67 hHeld ?_
            refine ty 7 68 hHeld ?_
            refine ty 8 69 hHeld ?_
            refine ty 9 70 hHeld ?_
            refine ty 10 71 hHeld ?_
            refine ty 11 72 hHeld ?_
            refine ty 12 73 hHeld ?_
            refine ty 13 74 hHeld ?_
            refine ty 14 75 hHeld ?_
            refine ty 15 76 hHeld ?_
            refine ty 16 77 hHeld ?_
            refine wpAnyH_done (by kernel_rfl) ?_ _
            go_wp2
            go_ret
            exact ⟨by rw [HS2.out.1]; rfl, by rw [HS2.out.2, HNx.out]; exact ⟨_, _, _, _, _, HI.out.gr hHeld.1⟩, HGB.out.gr hHeld.1⟩
      · have HS2 : Hid (S = R.2 ∧ S' = ⟨me, wi, ep, kn, it, nx, wn, ow⟩) := by
          refine ⟨HSe.out, ?_⟩
          rw [HSS.out, if_neg (by rw [HSe.out]; exact hz)]
        have hzb : (R.2 == 0) = false := by rw [beq_eq_false_iff_ne]; exact hz
        clear hz HSe HSS
        go_wp2
        go_ret
        exact ⟨by rw [HS2.out.1]; rfl, by rw [HS2.out.2]; exact ⟨_, _, _, _, _, HL1.out⟩, GB.ofGr HG1.out⟩
end Go.Proofs.YthfbpilfdfploaaGreat
