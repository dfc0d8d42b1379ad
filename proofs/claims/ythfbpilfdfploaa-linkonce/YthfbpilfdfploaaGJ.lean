/- Parts of these proofs, laid together. -/
import Derived.Test.YthfbpilfdfploaaGI
import Derived.Test.YthfbpilfdfploaaGF
import Derived.BigRegion
namespace Go.Proofs.Ythfbpilfdfploaa
open Go.RowKit
open Lk (St)

variable {Z : Nat → Prop}
set_option maxHeartbeats 4000000 in
set_option maxRecDepth 100000 in
theorem carries_any (g : Nat) (l : St Nx) (m : Mn) (w : World) (h : PkAt Z w g l) (hm : MnAt Z w m) :
    Calls Try.prog 24 #[.pointer (some ⟨g, 0, none⟩), m.v] w fun e w' => e = .returned (.bool (Lk.ends CX l (pk m.x))) ∧ Gr w w' := by
  obtain ⟨a, c, E, a2, c2, h⟩ := h
  have HE : Hid (∀ w', Gr w w' → Calls Try.prog 39 #[m.v] w' fun e w2 => e = .returned (.tuple #[.int .i64 (Nt.ends1 m.x), .int .i64 (Nt.ends2 m.x)]) ∧ Gr w' w2) := fun w' k => nEnds_any m.x.k m.x.r m.x.n m.x.L m.x.d m.x.y m.ad m.cap w' (hm.hp.gr k) hm.hl hm.hd hm.hc
  have HR : Hid (Lk.ends CX l (pk m.x) = (decide (Nt.ends1 m.x = l.me) && decide (Nt.ends2 m.x = l.wi))) := rfl
  generalize Lk.ends CX l (pk m.x) = R at *
  generalize Nt.ends1 m.x = e1 at *
  generalize Nt.ends2 m.x = e2 at *
  have HC := Lib.hid h.cs
  obtain ⟨me, wi, ep, kn, it, nx, wn, ow⟩ := l
  clear h hm
  obtain ⟨⟨k0, r, n, L, d, y⟩, ad2, cap2⟩ := m
  dsimp only [Mn.v] at *
  generalize L.length = ll at *
  go_enter Try.func24, Try.ntmps24
  go_wp2_with fail
  refine (HE.out _ ?_).mono ?_
  · exact (by repeat(first|exact Gr.r _|refine Gr.a ?_|refine Gr.d ?_|refine Gr.t ?_ (by assumption)))
  rintro e1' w1 ⟨rfl, hg1⟩
  have HG : Hid (Gr w w1) := (by repeat(first|exact Gr.r _|refine Gr.a ?_|refine Gr.d ?_|refine Gr.t ?_ (by assumption)))
  have hc := HC.out.gr HG.out
  have c0 := hc.at_ 0 _ rfl
  have c1 := hc.at_ 1 _ rfl
  have clt := hc.lt
  clear hc hg1 HC HE
  by_cases q1 : e1 = me
  · have q1b : (e1 == me) = true := by rw [beq_iff_eq]; exact q1
    rw [decide_eq_true q1, Bool.true_and] at HR
    have HB : Hid ((e2 == wi) = R) := by rw [HR.out]; exact Bool.eq_iff_iff.2 (by simp)
    have q2b := HB.out
    clear q1 HR
    go_wp2
    go_ret
    exact ⟨rfl, HG.out⟩
  · have q1b : (e1 == me) = false := by rw [beq_eq_false_iff_ne]; exact q1
    rw [decide_eq_false q1, Bool.false_and] at HR
    have hR := HR.out
    clear q1 HR
    subst hR
    go_wp2
    go_ret
    exact ⟨rfl, HG.out⟩

set_option maxHeartbeats 8000000 in
set_option maxRecDepth 100000 in
theorem kPush_any (g : Nat) (l : St Nx) (now : Int) (Q : List Mn) (adQ : Option Addr) (capQ : Nat) (w : World) (h : PkAt Z w g l) (hF : Frs Z w) (hQ : NtsAt Z w adQ Q) (hnQ : Q.length ≤ 9223372036854775807) :
    Calls Try.prog 25 #[.pointer (some ⟨g, 0, none⟩), .int .i64 now, .slice adQ Q.length capQ] w fun e w' => e = .returned (.int .i64 (Ox.push okN l.it l.nx now (pks Q)).2) ∧ PkAt Z w' g (if (Ox.push okN l.it l.nx now (pks Q)).2 = 0 then { l with it := (Ox.push okN l.it l.nx now (pks Q)).1, nx := Ox.next (Ox.push okN l.it l.nx now (pks Q)).1 l.nx } else l) ∧ GB g w w' := by
  obtain ⟨a, c, E, a2, c2, h⟩ := h
  have HL := Lib.hid h
  have hFw := Lib.hid hF
  have HP : Hid (∀ w', Gr w w' → Calls Try.prog 40 #[.slice a E.length c, .int .i64 l.nx, .int .i64 now, .slice adQ Q.length capQ] w' fun e w2 => PtR Z w' (Ox.push okN l.it l.nx now (pks Q)) e w2) := fun w' k => by
    have := push_any E l.nx now Q a c adQ capQ w' (hF.gr k) (h.rw.row.gr k) h.rw.ec h.rw.en (hQ.gr k) hnQ
    rw [h.rw.e] at this
    exact this
  have HRq : Hid (∀ x ∈ (Ox.push okN l.it l.nx now (pks Q)).1, 1 ≤ x.q ∧ x.q ≤ 1000000000) := by
    intro x hx
    unfold Ox.push at hx
    split at hx
    · rename_i hc
      have hmy := Ox.pushF_may (ok := okN) hc.2.2.1 hc.2.1 (pks Q) l.it ((Ox.mayB_iff _ _).1 hc.1)
      exact ((Ox.one_iff _ _).1 (hmy.all x hx)).1
    · cases hx
  generalize Ox.push okN l.it l.nx now (pks Q) = R at *
  obtain ⟨S', hS'⟩ : ∃ S', S' = (if R.2 = 0 then { l with it := R.1, nx := Ox.next R.1 l.nx } else l) := ⟨_, rfl⟩
  rw [← hS']
  have HS := Lib.hid hS'
  clear hS'
  have k3 := h.cs.at_ 3 _ rfl
  have k4 := h.cs.at_ 4 _ rfl
  have kl := h.cs.lt
  clear h hQ hF
  obtain ⟨me, wi, ep, kn, it, nx, wn, ow⟩ := l
  generalize Q.length = lq at *
  dsimp only at *
  unfold PtR at HP
  go_enter Try.func25, Try.ntmps25
  go_wp2_with fail
  refine wp_region_held_drew (S := (fun w' => Gr w w' ∧ w'.cell? ⟨g, 3, none⟩ = some (.slice a E.length c) ∧ w'.cell? ⟨g, 4, none⟩ = some (.int .i64 nx))) (by kernel_rfl) (by exact ⟨(by repeat(first|exact Gr.r _|refine Gr.a ?_|refine Gr.d ?_|refine Gr.t ?_ (by assumption))), Gr.keep (by repeat(first|exact Gr.r _|refine Gr.a ?_|refine Gr.d ?_|refine Gr.t ?_ (by assumption))) k3, Gr.keep (by repeat(first|exact Gr.r _|refine Gr.a ?_|refine Gr.d ?_|refine Gr.t ?_ (by assumption))) k4⟩) (fun hHeld => ?_)
  refine ty 0 10 hHeld ?_
  refine ty 1 11 hHeld ?_
  refine ty 2 12 hHeld ?_
  refine ty 3 13 hHeld ?_
  refine ty 4 14 hHeld ?_
  refine ty 5 15 hHeld ?_
  refine ty 6 16 hHeld ?_
  refine ty 7 17 hHeld ?_
  refine ty 8 18 hHeld ?_
  refine ty 9 19 hHeld ?_
  refine wpAnyH_ready (rs := [10]) (by kernel_rfl) (by simp) (AllReadyH.cons rfl (fun K hK => ?_) AllReadyH.nil)
  go_simp
  (go_at_call 40; refine (HP.out _ hHeld.1).mono ?_; rintro e1 w1 ⟨b, d, F, rfl, hb, he, hg1⟩)
  (try go_wp2_with fail)
  refine hK.out _ _ (by exact ⟨(by repeat(first|exact Gr.r _|refine Gr.a ?_|refine Gr.d ?_|refine Gr.t ?_ (by assumption))), Gr.keep (by repeat(first|exact Gr.r _|refine Gr.a ?_|refine Gr.d ?_|refine Gr.t ?_ (by assumption))) k3, Gr.keep (by repeat(first|exact Gr.r _|refine Gr.a ?_|refine Gr.d ?_|refine Gr.t ?_ (by assumption))) k4⟩) (fun hHeldN => ?_)
  clear hHeld hK K
  have hHeld := hHeldN
  clear hHeldN
  refine ty 11 9 hHeld ?_
  refine ty 12 21 hHeld ?_
  refine ty 13 22 hHeld ?_
  refine ty 14 7 hHeld ?_
  refine ty 15 8 hHeld ?_
  refine wpAnyH_done (by kernel_rfl) ?_ _
  have HL1 := Lib.hid (HL.out.gr hHeld.1)
  have HG1 := Lib.hid hHeld.1
  have hN := hb.pts (fun b hb' => hFw.out b (by simpa using hb'))
  have k3 := hHeld.2.1
  have f3 := HL1.out.cs.fz 3 (by simp)
  have kl1 := HL1.out.cs.lt
  have HFe := Lib.hid he
  have HN := Lib.hid hN
  clear hHeld hb he hg1 hN HP
  by_cases hz : R.2 = 0
  · have HS1 : Hid (S' = ⟨me, wi, ep, kn, its F, Ox.next (its F) nx, wn, ow⟩) := by show _ = _; rw [HS.out, if_pos hz, HFe.out]
    have HI := Lib.hid (HL1.out.items HN.out)
    have HGB : Hid (GB g w (w1.setCell ⟨g, 3, none⟩ (.slice b F.length d))) := (GB.ofGr HG1.out).setNew _ _ (Or.inr rfl)
    have HQr : Hid (∀ x ∈ F, 1 ≤ x.q ∧ x.q ≤ 1000000000) := fun x hx => by
      have := HRq.out x.it (by rw [← HFe.out]; exact List.mem_map.2 ⟨x, hx, rfl⟩)
      exact this
    have hzb : (R.2 == 0) = true := by rw [beq_iff_eq]; exact hz
    have m4 := HI.out.cs.at_ 4 _ rfl
    have mf4 := HI.out.cs.fz 4 (by simp)
    have ml := HI.out.cs.lt
    dsimp only at m4
    have HR2 := Lib.hid hz
    clear hz k4 HRq
    by_cases hF0 : F.length = 0
    · have hFn0 : F = [] := List.length_eq_zero_iff.1 hF0
      have HNx : Hid (Ox.next (its F) nx = nx) := by rw [hFn0]; exact next_none nx
      have hd0 : ¬ (0 : Int) < (F.length : Int) := by omega
      clear hFn0 hF0
      go_wp2
      go_ret
      exact ⟨by rw [HR2.out]; rfl, by rw [HS1.out, HNx.out]; exact ⟨_, _, _, _, _, HI.out⟩, HGB.out⟩
    · obtain ⟨e1, he1⟩ : ∃ e1, F.length = e1 + 1 := ⟨F.length - 1, by omega⟩
      have hnx := next_at he1 nx
      have hq1 := HQr.out F[e1] (List.getElem_mem (by omega))
      have hFne : F ≠ [] := fun k => hF0 (by rw [k]; rfl)
      obtain ⟨ob, oo, eo, hol, o0, orest⟩ := ItsRow.at HN.out.row.row e1 (by omega)
      have hog : ob ≠ g := fun k => HL1.out.nz (by rw [← k]; exact HN.out.na hFne _ eo)
      cases eo
      have o0 : (w1.setCell ⟨g, 3, none⟩ (.slice (some ⟨ob, oo, none⟩) F.length d)).cell? ⟨ob, oo + e1 * 9, none⟩ = some (.int .i64 F[e1].q) := by
        rw [World.cell?_setCell_far _ _ _ _ (by simpa using hog.symm)]; exact o0
      have hd0 : (0 : Int) < (F.length : Int) := by omega
      have hz4 : (F.length : Int) - 1 = (e1 : Int) := by omega
      have hz5 : (e1 : Int) < (F.length : Int) := by omega
      have hz6 : (0 : Int) ≤ (e1 : Int) := by omega
      have hFl := HN.out.en
      have hz3 : IntKind.i64.wrap (e1 : Int) = (e1 : Int) := by rw [IntKind.wrap_i64]; omega
      have hol2 : ob < (w1.setCell ⟨g, 3, none⟩ (.slice (some ⟨ob, oo, none⟩) F.length d)).heap.size := by simpa using hol
      clear orest hF0 hFne HQr
      generalize F[e1].q = q1 at *
      have hw1 : IntKind.i64.wrap (q1 + 1) = q1 + 1 := by rw [IntKind.wrap_i64]; omega
      have HNx : Hid (Ox.next (its F) nx = max nx (q1 + 1)) := by
        show _ = _
        rw [hnx]
        by_cases hc : nx ≤ q1
        · rw [if_pos hc]; omega
        · rw [if_neg hc]; omega
      clear hnx he1
      go_wp2
      go_region
      all_goals
        go_wp2
        go_ret
        exact ⟨by rw [HR2.out]; rfl, by rw [HS1.out, HNx.out]; exact ⟨_, _, _, _, _, (HI.out.next _).gr (Gr.refl _).drew⟩, (HGB.out.trans (gb_set _ _ _ _)).gr (Gr.refl _).drew⟩
  · have HS1 : Hid (S' = ⟨me, wi, ep, kn, it, nx, wn, ow⟩) := by show _ = _; rw [HS.out, if_neg hz]
    have hzb : (R.2 == 0) = false := by rw [beq_eq_false_iff_ne]; exact hz
    clear hz
    go_wp2
    go_ret
    exact ⟨rfl, by rw [HS1.out]; exact ⟨_, _, _, _, _, HL1.out⟩, GB.ofGr HG1.out⟩

set_option maxHeartbeats 4000000 in
set_option maxRecDepth 100000 in
theorem kDue_any (g : Nat) (l : St Nx) (now : Int) (w : World) (h : PkAt Z w g l) (hF : Frs Z w) :
    Calls Try.prog 29 #[.pointer (some ⟨g, 0, none⟩), .int .i64 now] w fun e w' => ∃ b d F, e = .returned (.slice b F.length d) ∧ Bxs Z w' w.heap.size (.slice b F.length d) F ∧ its F = Ox.dueD okN l.it now ∧ PkAt Z w' g { l with it := Ox.dueL okN l.it now } ∧ GB g w w' := by
  obtain ⟨a, c, E, a2, c2, h⟩ := h
  have HL := Lib.hid h
  have hFw := Lib.hid hF
  have HP : Hid (∀ w', Gr w w' → Calls Try.prog 44 #[.slice a E.length c, .int .i64 now] w' fun e w2 => DuR Z (Ox.dueL okN l.it now) (Ox.dueD okN l.it now) w' e w2) := fun w' k => by
    have := due_any E now a c w' (hF.gr k) (h.rw.row.gr k) h.rw.ec h.rw.en
    rw [h.rw.e] at this
    exact this
  generalize Ox.dueL okN l.it now = R1 at *
  generalize Ox.dueD okN l.it now = R2 at *
  have k3 := h.cs.at_ 3 _ rfl
  have kl := h.cs.lt
  clear h hF
  obtain ⟨me, wi, ep, kn, it, nx, wn, ow⟩ := l
  dsimp only at *
  unfold DuR at HP
  go_enter Try.func29, Try.ntmps29
  go_wp2_with fail
  refine (HP.out _ ?_).mono ?_
  · exact (by repeat(first|exact Gr.r _|refine Gr.a ?_|refine Gr.d ?_|refine Gr.t ?_ (by assumption)))
  rintro e1 w1 ⟨b, d, F, b2, d2, F2, rfl, hb, hb2, he, he2, hg1⟩
  have HG1 : Hid (Gr w w1) := (by repeat(first|exact Gr.r _|refine Gr.a ?_|refine Gr.d ?_|refine Gr.t ?_ (by assumption)))
  have HL1 := Lib.hid (HL.out.gr HG1.out)
  have hN := hb.pts (fun b hb' => hFw.out b (by simpa using hb'))
  have HI := Lib.hid (HL1.out.items hN)
  have HB2 := Lib.hid hb2
  have HE := Lib.hid (And.intro he he2)
  have k3 := HL1.out.cs.at_ 3 _ rfl
  have f3 := HL1.out.cs.fz 3 (by simp)
  have kl1 := HL1.out.cs.lt
  clear hb hb2 he he2 hg1 hN HP
  go_wp2
  go_ret
  refine ⟨b2, d2, F2, rfl, ?_, HE.out.2, by rw [← HE.out.1]; exact ⟨_, _, _, _, _, HI.out⟩, (GB.ofGr HG1.out).setNew _ _ (Or.inr rfl)⟩
  have hx := HB2.out
  refine ⟨own_far3 (own_low hx.own (by simp)) _ _ (fun e => ?_), fun x hx' => (hx.nt x hx').gb (gb_set _ _ _ _) HL1.out.nz, hx.ap⟩
  have := (hx.own.lt _ e).1
  simp at this
  omega
set_option maxHeartbeats 4000000 in
set_option maxRecDepth 100000 in
theorem kAnswered_any (g : Nat) (l : St Nx) (low : Int) (w : World) (h : PkAt Z w g l) (hF : Frs Z w) :
    Calls Try.prog 22 #[.pointer (some ⟨g, 0, none⟩), .int .i64 low] w fun e w' => (∃ v, e = .returned v) ∧ PkAt Z w' g (Lk.hit CX l low) ∧ GB g w w' := by
  obtain ⟨a, c, E, a2, c2, h⟩ := h
  have HL := Lib.hid h
  have hFw := Lib.hid hF
  have HP : Hid (∀ w', Gr w w' → Calls Try.prog 36 #[.slice a E.length c, .int .i64 low] w' fun e w2 => BxR Z (Ox.ans okN l.it low) w' e w2) := fun w' k => by
    have := answered_any E low a c w' (hF.gr k) (h.rw.row.gr k) h.rw.ec h.rw.en
    rw [h.rw.e] at this
    exact this
  have HR : Hid (Lk.hit CX l low = { l with it := Ox.ans okN l.it low }) := rfl
  generalize Lk.hit CX l low = R at *
  generalize Ox.ans okN l.it low = R1 at *
  have k3 := h.cs.at_ 3 _ rfl
  have kl := h.cs.lt
  clear h hF
  obtain ⟨me, wi, ep, kn, it, nx, wn, ow⟩ := l
  dsimp only at *
  unfold BxR at HP
  go_enter Try.func22, Try.ntmps22
  go_wp2_with fail
  refine (HP.out _ ?_).mono ?_
  · exact (by repeat(first|exact Gr.r _|refine Gr.a ?_|refine Gr.d ?_|refine Gr.t ?_ (by assumption)))
  rintro e1 w1 ⟨b, d, F, rfl, hb, he, hg1⟩
  have HG1 : Hid (Gr w w1) := (by repeat(first|exact Gr.r _|refine Gr.a ?_|refine Gr.d ?_|refine Gr.t ?_ (by assumption)))
  have HL1 := Lib.hid (HL.out.gr HG1.out)
  have hN := hb.pts (fun b hb' => hFw.out b (by simpa using hb'))
  have HI := Lib.hid (HL1.out.items hN)
  have HE := Lib.hid he
  have k3 := HL1.out.cs.at_ 3 _ rfl
  have f3 := HL1.out.cs.fz 3 (by simp)
  have kl1 := HL1.out.cs.lt
  clear hb he hg1 hN HP
  go_wp2
  go_end0
  exact ⟨⟨_, rfl⟩, by rw [HR.out, ← HE.out]; exact ⟨_, _, _, _, _, HI.out⟩, (GB.ofGr HG1.out).setNew _ _ (Or.inr rfl)⟩
set_option maxHeartbeats 4000000 in
set_option maxRecDepth 100000 in
theorem kAnew_any (g : Nat) (l : St Nx) (now : Int) (w : World) (h : PkAt Z w g l) (hF : Frs Z w) :
    Calls Try.prog 35 #[.pointer (some ⟨g, 0, none⟩), .int .i64 now] w fun e w' => (∃ v, e = .returned v) ∧ PkAt Z w' g { l with it := Ox.anew okN l.it now, nx := ((Ox.anew okN l.it now).length : Int) + 1 } ∧ GB g w w' := by
  obtain ⟨a, c, E, a2, c2, h⟩ := h
  have HL := Lib.hid h
  have hFw := Lib.hid hF
  have HP : Hid (∀ w', Gr w w' → Calls Try.prog 48 #[.slice a E.length c, .int .i64 now] w' fun e w2 => BxR Z (Ox.anew okN l.it now) w' e w2) := fun w' k => by
    have := anew_any E now a c w' (hF.gr k) (h.rw.row.gr k) h.rw.ec h.rw.en
    rw [h.rw.e] at this
    exact this
  have HA : Hid ((Ox.anew okN l.it now).length ≤ 12) := by
    show _ ≤ _
    unfold Ox.anew
    split
    · rename_i hc
      have := (Ox.mayB_iff _ _).1 hc.1
      rw [Ox.num_len]; exact this.len
    · simp
  generalize Ox.anew okN l.it now = R1 at *
  have k3 := h.cs.at_ 3 _ rfl
  have kl := h.cs.lt
  clear h hF
  obtain ⟨me, wi, ep, kn, it, nx, wn, ow⟩ := l
  dsimp only at *
  unfold BxR at HP
  go_enter Try.func35, Try.ntmps35
  go_wp2_with fail
  refine (HP.out _ ?_).mono ?_
  · exact (by repeat(first|exact Gr.r _|refine Gr.a ?_|refine Gr.d ?_|refine Gr.t ?_ (by assumption)))
  rintro e1 w1 ⟨b, d, F, rfl, hb, he, hg1⟩
  have HG1 : Hid (Gr w w1) := (by repeat(first|exact Gr.r _|refine Gr.a ?_|refine Gr.d ?_|refine Gr.t ?_ (by assumption)))
  have HL1 := Lib.hid (HL.out.gr HG1.out)
  have hN := hb.pts (fun b hb' => hFw.out b (by simpa using hb'))
  have HI := Lib.hid (HL1.out.items hN)
  have HE := Lib.hid he
  have k3 := HL1.out.cs.at_ 3 _ rfl
  have f3 := HL1.out.cs.fz 3 (by simp)
  have kl1 := HL1.out.cs.lt
  have m4 := HI.out.cs.at_ 4 _ rfl
  have f4 := HI.out.cs.fz 4 (by simp)
  have hlF : F.length ≤ 12 := by rw [← its_len F, HE.out]; exact HA.out
  have hw1 : IntKind.i64.wrap ((1 : Int) + (F.length : Int)) = (F.length : Int) + 1 := by rw [IntKind.wrap_i64]; omega
  have HEl : Hid ((R1.length : Int) = (F.length : Int)) := by show _ = _; rw [← HE.out, its_len]
  clear hb he hg1 hN HP
  go_wp2
  go_end0
  exact ⟨⟨_, rfl⟩, by rw [HEl.out, ← HE.out]; exact ⟨_, _, _, _, _, HI.out.next _⟩, ((GB.ofGr HG1.out).trans (gb_set _ _ _ _)).trans (gb_set _ _ _ _)⟩
set_option maxHeartbeats 4000000 in
set_option maxRecDepth 100000 in
theorem kFrame_any (g : Nat) (l : St Nx) (q : Int) (m : Mn) (w : World) (h : PkAt Z w g l) :
    Calls Try.prog 30 #[.pointer (some ⟨g, 0, none⟩), .int .i64 q, m.v] w fun e w' => e = .returned (Mf.v ⟨l.me, l.wi, l.ep, q, l.kn, l.wn.low, m⟩) ∧ Gr w w' := by
  obtain ⟨a, c, E, a2, c2, h⟩ := h
  have k0 := h.cs.at_ 0 _ rfl
  have k1 := h.cs.at_ 1 _ rfl
  have k2 := h.cs.at_ 2 _ rfl
  have k5 := h.cs.at_ 5 _ rfl
  have k6 := h.cs.at_ 6 _ rfl
  have kl := h.cs.lt
  clear h
  obtain ⟨me, wi, ep, kn, it, nx, ⟨low, seen⟩, ow⟩ := l
  obtain ⟨⟨k0', r, n, L, d, y⟩, ad2, cap2⟩ := m
  dsimp only [Mn.v, Mf.v] at *
  generalize L.length = ll at *
  go_enter Try.func30, Try.ntmps30
  go_wp2
  go_region
  all_goals
    go_wp2
    refine bodyPost_ret (v := .agg #[.int .i64 me, .int .i64 wi, .int .i64 ep, .int .i64 q, .int .i64 kn, .int .i64 low, .int .i64 k0', .int .i64 r, .int .i64 n, .slice ad2 ll cap2, .string d, .int .i64 y]) (by simp [results, Try.results30, go_sem]) rfl ?_
    exact ⟨rfl, (by repeat(first|exact Gr.r _|refine Gr.a ?_|refine Gr.d ?_|refine Gr.t ?_ (by assumption)))⟩
end Go.Proofs.Ythfbpilfdfploaa
