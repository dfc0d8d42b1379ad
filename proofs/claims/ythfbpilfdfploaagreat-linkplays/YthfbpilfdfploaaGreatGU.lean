/- Parts of these proofs, laid together. -/
import Derived.Test.YthfbpilfdfploaaGreatGL
import Derived.Test.YthfbpilfdfploaaGreatGT
import Derived.Test.YthfbpilfdfploaaGreatGO
import Derived.BigRegion
namespace Go.Proofs.YthfbpilfdfploaaGreat
open Go.RowKit
open Lk (St)

variable {Z : Nat → Prop}
set_option maxHeartbeats 16000000 in
set_option maxRecDepth 100000 in
theorem rTick_any (g : Nat) (l : St Nx) (now : Int) (w : World) (h : LkAt Z w g l) (hF : Frs Z w) :
    Calls Tryz.prog 15 #[.pointer (some ⟨g, 0, none⟩), .int .i64 now] w fun e w' => TkF Z (Lk.tickF CX l now) w e w' ∧ LkAt Z w' g (Lk.tickS CX l now) ∧ GB g w w' := by
  obtain ⟨i0, hi0, hz0, hz1, hz2⟩ := info_parts infoFrame
  cases ht : Ox.tmB now with
  | false =>
    have HR : Hid (TkF Z (Lk.tickF CX l now) w (.returned (.slice none 0 0)) w ∧ LkAt Z w g (Lk.tickS CX l now) ∧ GB g w w) := by
      unfold Lk.tickF Lk.tickS
      rw [ht, if_neg (by decide), if_neg (by decide)]
      exact ⟨⟨none, 0, [], rfl, Fxs.nil _ _, rfl⟩, h, GB.refl _ _⟩
    have ht' := of_decide_eq_false ht
    clear h hF ht
    by_cases hn : now < 0
    · clear ht'
      go_enter Tryz.func15, Tryz.ntmps15
      go_wp2
      go_ret
      exact HR.out
    · have hn2 : 1000000000 < now := by omega
      clear ht'
      go_enter Tryz.func15, Tryz.ntmps15
      go_wp2
      go_ret
      exact HR.out
  | true =>
    have ht' := of_decide_eq_true ht
    have hn1 : ¬ now < 0 := by omega
    have hn2 : ¬ 1000000000 < now := by omega
    have hFw := Lib.hid hF
    have HLt := Lib.hid h.lt
    obtain ⟨a0, c0, E0, a2, c2, h⟩ := h
    have HD : Hid (∀ w', Gr w w' → Calls Tryz.prog 41 #[.slice a0 E0.length c0, .int .i64 now] w' fun e w2 => DuR Z (Ox.dueL okN l.it now) (Ox.dueD okN l.it now) w' e w2) := fun w' k => by
      have := rDue_any E0 now a0 c0 w' (h.rw.row.gr k) h.rw.ec h.rw.en
      rw [h.rw.e] at this
      exact this
    have HR1 : Hid (Lk.tickF CX l now = if (Ox.dueD okN l.it now).isEmpty then (if l.ow then [Lk.frm l 0 CX.z] else []) else (Ox.dueD okN l.it now).map (fun x => Lk.frm l x.q x.n)) := by
      show _ = _
      unfold Lk.tickF
      rw [ht, if_pos rfl]; rfl
    have HR2 : Hid (Lk.tickS CX l now = { l with it := Ox.dueL okN l.it now, ow := false }) := by
      show _ = _
      unfold Lk.tickS
      rw [ht, if_pos rfl]; rfl
    have HDl := Lib.hid (due_len (l := l.it) (now := now))
    generalize Lk.tickF CX l now = RF at *
    generalize Lk.tickS CX l now = RS at *
    generalize Ox.dueD okN l.it now = DD at *
    generalize Ox.dueL okN l.it now = DL at *
    have HL := Lib.hid h
    have k4 := h.cs.at_ 4 _ rfl
    have kl := h.cs.lt
    clear h hF ht ht'
    obtain ⟨me, wi, ep, kn, it, nx, ⟨low, seen⟩, ow⟩ := l
    dsimp only at *
    unfold DuR at HD
    go_enter Tryz.func15, Tryz.ntmps15
    go_wp2_with fail
    refine (HD.out _ ?_).mono ?_
    · exact (by repeat(first|exact Gr.r _|refine Gr.a ?_|refine Gr.d ?_|refine Gr.t ?_ (by assumption)))
    rintro e2 w1 ⟨b, d, E, b0, d0, F, rfl, hbE, hbF, heE, heF, hg1⟩
    have HG1 : Hid (Gr w w1) := (by repeat(first|exact Gr.r _|refine Gr.a ?_|refine Gr.d ?_|refine Gr.t ?_ (by assumption)))
    have hFl : F.length ≤ 12 := by rw [← its_len F, heF]; exact HDl.out
    have hN := hbE.pts (fun b hb' => hFw.out b (by simpa using hb'))
    have hL1 := HL.out.gr HG1.out
    have hNz := hL1.nz
    have hI := hL1.items hN
    rw [heE] at hI
    obtain ⟨_, _, ee, hb1, hb2, hit, hb3⟩ := hbF.at
    cases ee
    have hbn : F ≠ [] → ∀ p, b0 = some p → Z p.block := fun _ p e => hFw.out _ (by have := hb3 p e; simpa using this)
    have hit2 : ItsAt Z (w1.setCell ⟨g, 4, none⟩ (.slice b E.length d)) b0 F := ⟨hit.row.gb (gb_set g 4 w1 _) (fun hne p e kk => hNz (by rw [← kk]; exact hbn hne p e)), fun x hx => (hit.nt x hx).gb (gb_set g 4 w1 _) hNz⟩
    have hs1 : w.heap.size ≤ w1.heap.size := HG1.out.size
    have k4 := hL1.cs.at_ 4 _ rfl
    have f4 := hL1.cs.fz 4 (by simp)
    have j0 := hI.cs.at_ 0 _ rfl
    have j1 := hI.cs.at_ 1 _ rfl
    have j2 := hI.cs.at_ 2 _ rfl
    have j3 := hI.cs.at_ 3 _ rfl
    have j6 := hI.cs.at_ 6 _ rfl
    have jl := hI.cs.lt
    dsimp only at k4 j0 j1 j2 j3 j6
    have HI := Lib.hid hI
    have HEf := Lib.hid heF
    have HGS : Hid (GB g w (w1.setCell ⟨g, 4, none⟩ (.slice b E.length d))) := (GB.ofGr HG1.out).trans (gb_set g 4 w1 _)
    have hsS : (w1.setCell ⟨g, 4, none⟩ (.slice b E.length d)).heap.size = w1.heap.size := by simp
    obtain ⟨wS, hwS⟩ : ∃ x, x = w1.setCell ⟨g, 4, none⟩ (.slice b E.length d) := ⟨_, rfl⟩
    rw [← hwS] at HI HGS hit2 hsS j0 j1 j2 j3 j6 jl
    have HIt := Lib.hid hit2
    clear hbE hbF heE heF hg1 hN hL1 hI hit hit2 hb3 hb1 hb2 HD HL
    go_wp2
    rw [← hwS]
    clear hwS k4 f4
    clear hsS
    go_wp2_with fail
    refine wp_region_held_drew (S := (fun w' => w'.cell? ⟨g, 0, none⟩ = some (.int .i64 me) ∧ w'.cell? ⟨g, 1, none⟩ = some (.int .i64 wi) ∧ w'.cell? ⟨g, 2, none⟩ = some (.int .i64 ep) ∧ w'.cell? ⟨g, 3, none⟩ = some (.int .i64 kn) ∧ w'.cell? ⟨g, 6, none⟩ = some (.int .i64 low))) (by kernel_rfl) (by exact ⟨Gr.keep (by (with_reducible repeat' (first | exact Gr.refl _ | refine Gr.set ?_ _ ?_ _ | refine Gr.alloc ?_ | refine Gr.drew ?_ | refine Gr.trans ?_ (by assumption))) <;> (first | (simp; done) | (simp; omega) | omega)) j0, Gr.keep (by (with_reducible repeat' (first | exact Gr.refl _ | refine Gr.set ?_ _ ?_ _ | refine Gr.alloc ?_ | refine Gr.drew ?_ | refine Gr.trans ?_ (by assumption))) <;> (first | (simp; done) | (simp; omega) | omega)) j1, Gr.keep (by (with_reducible repeat' (first | exact Gr.refl _ | refine Gr.set ?_ _ ?_ _ | refine Gr.alloc ?_ | refine Gr.drew ?_ | refine Gr.trans ?_ (by assumption))) <;> (first | (simp; done) | (simp; omega) | omega)) j2, Gr.keep (by (with_reducible repeat' (first | exact Gr.refl _ | refine Gr.set ?_ _ ?_ _ | refine Gr.alloc ?_ | refine Gr.drew ?_ | refine Gr.trans ?_ (by assumption))) <;> (first | (simp; done) | (simp; omega) | omega)) j3, Gr.keep (by (with_reducible repeat' (first | exact Gr.refl _ | refine Gr.set ?_ _ ?_ _ | refine Gr.alloc ?_ | refine Gr.drew ?_ | refine Gr.trans ?_ (by assumption))) <;> (first | (simp; done) | (simp; omega) | omega)) j6⟩) (fun hHeld => ?_)
    refine ty 0 30 hHeld ?_
    refine ty 1 31 hHeld ?_
    refine ty 2 32 hHeld ?_
    refine ty 3 33 hHeld ?_
    refine ty 4 34 hHeld ?_
    refine ty 5 35 hHeld ?_
    refine ty 6 36 hHeld ?_
    refine ty 7 37 hHeld ?_
    refine ty 8 38 hHeld ?_
    refine ty 9 39 hHeld ?_
    refine ty 10 40 hHeld ?_
    refine ty 11 41 hHeld ?_
    refine ty 12 42 hHeld ?_
    refine ty 13 43 hHeld ?_
    refine ty 14 44 hHeld ?_
    refine ty 15 45 hHeld ?_
    refine ty 16 46 hHeld ?_
    refine ty 17 47 hHeld ?_
    refine ty 18 48 hHeld ?_
    refine ty 19 49 hHeld ?_
    refine ty 20 50 hHeld ?_
    refine ty 21 51 hHeld ?_
    refine wpAnyH_ready (rs := [22]) (by kernel_rfl) (by simp) (AllReadyH.cons rfl (fun K hK => ?_) AllReadyH.nil)
    go_simp
    refine hK.out _ _ (by exact ⟨Gr.keep (by (with_reducible repeat' (first | exact Gr.refl _ | refine Gr.set ?_ _ ?_ _ | refine Gr.alloc ?_ | refine Gr.drew ?_ | refine Gr.trans ?_ (by assumption))) <;> (first | (simp; done) | (simp; omega) | omega)) j0, Gr.keep (by (with_reducible repeat' (first | exact Gr.refl _ | refine Gr.set ?_ _ ?_ _ | refine Gr.alloc ?_ | refine Gr.drew ?_ | refine Gr.trans ?_ (by assumption))) <;> (first | (simp; done) | (simp; omega) | omega)) j1, Gr.keep (by (with_reducible repeat' (first | exact Gr.refl _ | refine Gr.set ?_ _ ?_ _ | refine Gr.alloc ?_ | refine Gr.drew ?_ | refine Gr.trans ?_ (by assumption))) <;> (first | (simp; done) | (simp; omega) | omega)) j2, Gr.keep (by (with_reducible repeat' (first | exact Gr.refl _ | refine Gr.set ?_ _ ?_ _ | refine Gr.alloc ?_ | refine Gr.drew ?_ | refine Gr.trans ?_ (by assumption))) <;> (first | (simp; done) | (simp; omega) | omega)) j3, Gr.keep (by (with_reducible repeat' (first | exact Gr.refl _ | refine Gr.set ?_ _ ?_ _ | refine Gr.alloc ?_ | refine Gr.drew ?_ | refine Gr.trans ?_ (by assumption))) <;> (first | (simp; done) | (simp; omega) | omega)) j6⟩) (fun hHeldN => ?_)
    clear hHeld hK K
    have hHeld := hHeldN
    clear hHeldN
    refine wpAnyH_ready (rs := [23]) (by kernel_rfl) (by simp) (AllReadyH.cons rfl (fun K hK => ?_) AllReadyH.nil)
    go_simp
    refine hK.out _ _ (by exact ⟨Gr.keep (by (with_reducible repeat' (first | exact Gr.refl _ | refine Gr.set ?_ _ ?_ _ | refine Gr.alloc ?_ | refine Gr.drew ?_ | refine Gr.trans ?_ (by assumption))) <;> (first | (simp; done) | (simp; omega) | omega)) j0, Gr.keep (by (with_reducible repeat' (first | exact Gr.refl _ | refine Gr.set ?_ _ ?_ _ | refine Gr.alloc ?_ | refine Gr.drew ?_ | refine Gr.trans ?_ (by assumption))) <;> (first | (simp; done) | (simp; omega) | omega)) j1, Gr.keep (by (with_reducible repeat' (first | exact Gr.refl _ | refine Gr.set ?_ _ ?_ _ | refine Gr.alloc ?_ | refine Gr.drew ?_ | refine Gr.trans ?_ (by assumption))) <;> (first | (simp; done) | (simp; omega) | omega)) j2, Gr.keep (by (with_reducible repeat' (first | exact Gr.refl _ | refine Gr.set ?_ _ ?_ _ | refine Gr.alloc ?_ | refine Gr.drew ?_ | refine Gr.trans ?_ (by assumption))) <;> (first | (simp; done) | (simp; omega) | omega)) j3, Gr.keep (by (with_reducible repeat' (first | exact Gr.refl _ | refine Gr.set ?_ _ ?_ _ | refine Gr.alloc ?_ | refine Gr.drew ?_ | refine Gr.trans ?_ (by assumption))) <;> (first | (simp; done) | (simp; omega) | omega)) j6⟩) (fun hHeldN => ?_)
    clear hHeld hK K
    have hHeld := hHeldN
    clear hHeldN
    refine wpAnyH_done (by kernel_rfl) ?_ _
    clear hHeld
    obtain ⟨wB, hwB⟩ : ∃ x, x = (wS.alloc (.cells #[.int .i64 me, .int .i64 wi, .int .i64 ep, .int .i64 0, .int .i64 kn, .int .i64 low, .int .i64 0, .int .i64 0, .int .i64 0, .slice none 0 0, .string ⟨#[]⟩, .int .i64 0] 38)).drew := ⟨_, rfl⟩
    rw [← hwB]
    have hgB : Gr wS wB := by rw [hwB]; exact (Gr.refl _).alloc.drew
    have HFB : Hid (Cs wB wS.heap.size [.int .i64 me, .int .i64 wi, .int .i64 ep, .int .i64 0, .int .i64 kn, .int .i64 low, .int .i64 0, .int .i64 0, .int .i64 0, .slice none 0 0, .string ⟨#[]⟩, .int .i64 0]) := by
      show Cs _ _ _
      rw [hwB]
      exact (Cs.new wS [.int .i64 me, .int .i64 wi, .int .i64 ep, .int .i64 0, .int .i64 kn, .int .i64 low, .int .i64 0, .int .i64 0, .int .i64 0, .slice none 0 0, .string ⟨#[]⟩, .int .i64 0] 38 _ rfl).gr (Gr.refl _).drew
    have HP : Hid (LkAt Z wB g ⟨me, wi, ep, kn, DL, nx, ⟨low, seen⟩, ow⟩) := (show LkAt Z wS g _ from ⟨_, _, _, _, _, HI.out⟩).gr hgB
    have HGB := Lib.hid (HGS.out.gr hgB)
    have HItB := Lib.hid (HIt.out.gr hgB)
    have hsB : w.heap.size ≤ wB.heap.size := Nat.le_trans HGS.out.size hgB.size
    clear hwB hgB HI HGS HIt j0 j1 j2 j3 j6 jl
    go_wp2
    go_loopw [8, 9] (fun s8 s9 wr => ∃ (j : Nat) (a : Option Addr) (c : Nat) (D : List Mf), s9 = .int .i64 j ∧ s8 = .slice a D.length c ∧ j ≤ F.length ∧ D.length = j ∧ (∀ (i : Nat) (h1 : i < D.length) (h2 : i < F.length), D[i].fr = Lk.frm ⟨me, wi, ep, kn, it, nx, ⟨low, seen⟩, ow⟩ F[i].q (pk F[i].m.x)) ∧ Fxs Z wr wB.heap.size (.slice a D.length c) D ∧ Gr wB wr) (fun _ s9 _ => F.length - (intOf s9).toNat)
    case atStart => exact ⟨0, none, 0, [], rfl, rfl, Nat.zero_le _, rfl, fun i h => absurd h (Nat.not_lt_zero _), Fxs.nil _ _, Gr.refl _⟩
    case round =>
      obtain ⟨j, a, c, D, rfl, rfl, hj, hDj, hall, hfx, hg⟩ := hrel
      have HG := Lib.hid hg
      have HA := Lib.hid hall
      have HFx := Lib.hid hfx
      have HDj := Lib.hid hDj
      have hDl : D.length ≤ 12 := by omega
      have hdj : (D.length = 0 ↔ j = 0) := by omega
      have HDz := Lib.hid hdj
      clear hall hfx hDj hdj
      by_cases hlt : j < F.length
      · obtain ⟨bb, off, rfl, hbl, d0, d1, d2, d3, d4, d5, d6, d7, d8⟩ := ItsRow.at HItB.out.row j hlt
        have d0 := hg.keep d0
        have d3 := hg.keep d3
        have d4 := hg.keep d4
        have d5 := hg.keep d5
        have d6 := hg.keep d6
        have d7 := hg.keep d7
        have d8 := hg.keep d8
        have hbw : bb < wr.heap.size := Nat.lt_of_lt_of_le hbl hg.size
        have hFBr := HFB.out.gr hg
        have u0 := hFBr.at_ 0 _ rfl
        have u1 := hFBr.at_ 1 _ rfl
        have u2 := hFBr.at_ 2 _ rfl
        have u3 := hFBr.at_ 3 _ rfl
        have u4 := hFBr.at_ 4 _ rfl
        have u5 := hFBr.at_ 5 _ rfl
        have u6 := hFBr.at_ 6 _ rfl
        have u7 := hFBr.at_ 7 _ rfl
        have u8 := hFBr.at_ 8 _ rfl
        have u9 := hFBr.at_ 9 _ rfl
        have u10 := hFBr.at_ 10 _ rfl
        have u11 := hFBr.at_ 11 _ rfl
        have uf0 := hFBr.fz 0 (by simp)
        have uf1 := hFBr.fz 1 (by simp)
        have uf2 := hFBr.fz 2 (by simp)
        have uf3 := hFBr.fz 3 (by simp)
        have uf4 := hFBr.fz 4 (by simp)
        have uf5 := hFBr.fz 5 (by simp)
        have uf6 := hFBr.fz 6 (by simp)
        have uf7 := hFBr.fz 7 (by simp)
        have uf8 := hFBr.fz 8 (by simp)
        have uf9 := hFBr.fz 9 (by simp)
        have uf10 := hFBr.fz 10 (by simp)
        have uf11 := hFBr.fz 11 (by simp)
        have ult := hFBr.lt
        have hji : (j : Int) < (F.length : Int) := by omega
        have hj0 : (0 : Int) ≤ (j : Int) := by omega
        have HNx := Lib.hid (HItB.out.nt F[j] (List.getElem_mem hlt))
        have HAn : Hid (∀ x : Mf, x.fr = Lk.frm ⟨me, wi, ep, kn, it, nx, ⟨low, seen⟩, ow⟩ F[j].q (pk F[j].m.x) → ∀ (i : Nat) (h1 : i < (D ++ [x]).length) (h2 : i < F.length), (D ++ [x])[i].fr = Lk.frm ⟨me, wi, ep, kn, it, nx, ⟨low, seen⟩, ow⟩ F[i].q (pk F[i].m.x)) := by
          intro x hx i h1 h2
          by_cases hi : i < D.length
          · rw [List.getElem_append_left hi]; exact HA.out i hi h2
          · have hij : i = j := by have := HDj.out; rw [List.length_append, List.length_singleton] at h1; omega
            subst hij
            have := HDj.out
            rw [List.getElem_append_right (by omega)]
            simpa using hx
        clear hg d1 d2 uf0 uf1 uf2 uf3 uf4 uf5 uf6 uf7 uf8 uf9 uf10 uf11
        generalize F[j] = x at *
        obtain ⟨q, dd, s, ⟨⟨k0, r, n, L, dt, y⟩, ax, cx⟩⟩ := x
        dsimp only [Mn.v, Mi.v, Mf.v] at *
        have hEm1 : D.length + 1 ≤ maxLen := by unfold maxLen; omega
        obtain ⟨W2, hW2⟩ : ∃ W2, W2 = wr.alloc (.cells #[.int .i64 me, .int .i64 wi, .int .i64 ep, .int .i64 q, .int .i64 kn, .int .i64 low, .int .i64 k0, .int .i64 r, .int .i64 n, .slice ax L.length cx, .string dt, .int .i64 y] 38) := ⟨_, rfl⟩
        have gst : Gr wr W2 := by rw [hW2]; exact (Gr.refl _).alloc
        have hW2s : W2.heap.size = wr.heap.size + 1 := by rw [hW2]; simp
        have HFx3 := Lib.hid ((HFx.out.gr gst).gr ((Gr.refl W2).alloc (o := .cells #[.int .i64 me, .int .i64 wi, .int .i64 ep, .int .i64 q, .int .i64 kn, .int .i64 low, .int .i64 k0, .int .i64 r, .int .i64 n, .slice ax L.length cx, .string dt, .int .i64 y] 38)))
        have HG4 : Hid (Gr wB (W2.alloc (.cells #[.int .i64 me, .int .i64 wi, .int .i64 ep, .int .i64 q, .int .i64 kn, .int .i64 low, .int .i64 k0, .int .i64 r, .int .i64 n, .slice ax L.length cx, .string dt, .int .i64 y] 38))) := (HG.out.trans gst).alloc
        have HM4 := Lib.hid (HNx.out.gr HG4.out)
        have hnw := f_new W2 ⟨me, wi, ep, q, kn, low, ⟨⟨k0, r, n, L, dt, y⟩, ax, cx⟩⟩ 38
        rw [show (fC ⟨me, wi, ep, q, kn, low, ⟨⟨k0, r, n, L, dt, y⟩, ax, cx⟩⟩).toArray = #[.int .i64 me, .int .i64 wi, .int .i64 ep, .int .i64 q, .int .i64 kn, .int .i64 low, .int .i64 k0, .int .i64 r, .int .i64 n, .slice ax L.length cx, .string dt, .int .i64 y] from rfl, hW2s] at hnw
        have HNw := Lib.hid hnw
        have hlen4 : wB.heap.size ≤ wr.heap.size := HG.out.size
        have HAp : Hid (L ≠ [] → ∀ p, ax = some p → (Value.slice a D.length c).ownBlock ≠ some p.block) := by
          intro hne p e kk
          have h1 := (HFx.out.own.lt _ kk).1
          have h2 := hops_lt HNx.out.hp hne e
          omega
        have HAx := Lib.hid (HAn.out ⟨me, wi, ep, q, kn, low, ⟨⟨k0, r, n, L, dt, y⟩, ax, cx⟩⟩ rfl)
        subst hW2
        clear hnw HNx gst HAn
        go_wp2_with (first
          | (at_builtin; refine wpList_append_own_at _ rfl _ _ 50 rfl wB.heap.size 38 i0 (.agg #[.int .i64 0, .int .i64 0, .int .i64 0, .int .i64 0, .int .i64 0, .int .i64 0, .int .i64 0, .int .i64 0, .int .i64 0, .slice none 0 0, .string ⟨#[]⟩, .int .i64 0]) 12 120 Tryz.underlying50 hi0 hz0 hz1 hz2 rfl (by decide) _ _ _ rfl HFx3.out.own ⟨wr.heap.size + 1, 0, none⟩ 1 1 ([(⟨me, wi, ep, q, kn, low, ⟨⟨k0, r, n, L, dt, y⟩, ax, cx⟩⟩ : Mf)].flatMap fC) rfl rfl HNw.out (f_one _) hEm1 (by omega) (by simp; omega) ?_)
          | fail)
        intro v'' w8 hown' hgrow _ hat
        have hat : v''.ownBlock = (Value.slice a D.length c).ownBlock ∨ v''.ownBlock = some (wr.heap.size + 1 + 1) := by simpa using hat
        have hmo := Fxs.more (x := ⟨me, wi, ep, q, kn, low, ⟨⟨k0, r, n, L, dt, y⟩, ax, cx⟩⟩) HFx3.out HM4.out HAp.out hown' hgrow (by simpa using hat)
        obtain ⟨a8, c8, rfl⟩ := hmo.slice
        have HMo := Lib.hid hmo
        have HG8 := Lib.hid (HFx3.out.grown HG4.out hgrow (Nat.le_refl _))
        clear hmo hown' hgrow hat HFx3 HM4 HG4 HNw d0 d3 d4 d5 d6 d7 d8 hW2s u0 u1 u2 u3 u4 u5 u6 u7 u8 u9 u10 u11 ult hFBr
        go_wp2
        go_roundw
        case rel => exact ⟨j + 1, a8, c8, D ++ [(⟨me, wi, ep, q, kn, low, ⟨⟨k0, r, n, L, dt, y⟩, ax, cx⟩⟩ : Mf)], by go_num, by simp, by omega, by have := HDj.out; simp; omega, HAx.out, HMo.out, HG8.out⟩
        case measure => simp [intOf]; omega
      · have hge : ¬ ((j : Int) < (F.length : Int)) := by omega
        have HPr := Lib.hid (HP.out.gr hg)
        have HGBr := Lib.hid (HGB.out.gr hg)
        have hFBr := HFB.out.gr hg
        obtain ⟨pa, pc, pE, pa2, pc2, hpk⟩ := HPr.out
        have HPk := Lib.hid hpk
        have c8 := hpk.cs.at_ 8 _ rfl
        have f8 := hpk.cs.fz 8 (by simp)
        have cl := hpk.cs.lt
        dsimp only at c8
        clear hpk hg
        by_cases hF0 : F.length = 0
        · have hD0 : D.length = 0 := HDz.out.2 (by omega)
          have HDn : Hid (D = []) := List.length_eq_zero_iff.1 hD0
          have hD1 : ((D.length : Int) == 0) = true := by rw [beq_iff_eq]; omega
          have HDD := Lib.hid (its_none HEf.out hF0)
          clear hD0
          cases ow with
          | false =>
            have HRF : Hid (RF = []) := by show _ = _; rw [HR1.out, HDD.out]; rfl
            go_wp2
            go_ret
            exact ⟨⟨a, c, D, rfl, (HFx.out.low hsB).far HPk.out.nz HLt.out, by rw [HRF.out, HDn.out]; rfl⟩, by rw [HR2.out]; exact ⟨_, _, _, _, _, HPk.out.owe false⟩, HGBr.out.trans (gb_set _ _ _ _)⟩
          | true =>
            have HRF : Hid (RF = [Lk.frm ⟨me, wi, ep, kn, it, nx, ⟨low, seen⟩, true⟩ 0 CX.z]) := by show _ = _; rw [HR1.out, HDD.out]; rfl
            have u0 := hFBr.at_ 0 _ rfl
            have u1 := hFBr.at_ 1 _ rfl
            have u2 := hFBr.at_ 2 _ rfl
            have u3 := hFBr.at_ 3 _ rfl
            have u4 := hFBr.at_ 4 _ rfl
            have u5 := hFBr.at_ 5 _ rfl
            have u6 := hFBr.at_ 6 _ rfl
            have u7 := hFBr.at_ 7 _ rfl
            have u8 := hFBr.at_ 8 _ rfl
            have u9 := hFBr.at_ 9 _ rfl
            have u10 := hFBr.at_ 10 _ rfl
            have u11 := hFBr.at_ 11 _ rfl
            have uf0 := hFBr.fz 0 (by simp)
            have uf1 := hFBr.fz 1 (by simp)
            have uf2 := hFBr.fz 2 (by simp)
            have uf3 := hFBr.fz 3 (by simp)
            have uf4 := hFBr.fz 4 (by simp)
            have uf5 := hFBr.fz 5 (by simp)
            have uf6 := hFBr.fz 6 (by simp)
            have uf7 := hFBr.fz 7 (by simp)
            have uf8 := hFBr.fz 8 (by simp)
            have uf9 := hFBr.fz 9 (by simp)
            have uf10 := hFBr.fz 10 (by simp)
            have uf11 := hFBr.fz 11 (by simp)
            have ult := hFBr.lt
            clear uf0 uf1 uf2 uf3 uf4 uf5 uf6 uf7 uf8 uf9 uf10 uf11
            have HFx3 := Lib.hid (HFx.out.gr ((Gr.refl wr).alloc (o := .cells #[.int .i64 me, .int .i64 wi, .int .i64 ep, .int .i64 0, .int .i64 kn, .int .i64 low, .int .i64 0, .int .i64 0, .int .i64 0, .slice none 0 0, .string ⟨#[]⟩, .int .i64 0] 38)))
            have HG4 : Hid (Gr wr (wr.alloc (.cells #[.int .i64 me, .int .i64 wi, .int .i64 ep, .int .i64 0, .int .i64 kn, .int .i64 low, .int .i64 0, .int .i64 0, .int .i64 0, .slice none 0 0, .string ⟨#[]⟩, .int .i64 0] 38))) := (Gr.refl _).alloc
            have hnw := f_new wr ⟨me, wi, ep, 0, kn, low, ⟨Nt.zeroN, none, 0⟩⟩ 38
            rw [show (fC ⟨me, wi, ep, 0, kn, low, ⟨Nt.zeroN, none, 0⟩⟩).toArray = #[.int .i64 me, .int .i64 wi, .int .i64 ep, .int .i64 0, .int .i64 kn, .int .i64 low, .int .i64 0, .int .i64 0, .int .i64 0, .slice none 0 0, .string ⟨#[]⟩, .int .i64 0] from rfl] at hnw
            have HNw := Lib.hid hnw
            have HM4 : Hid (∀ w', MnAt Z w' (⟨Nt.zeroN, none, 0⟩ : Mn)) := fun w' => ⟨fun j hj => absurd hj (by simp [Nt.zeroN]), by simp [Nt.zeroN], by simp [Nt.zeroN], by decide, fun hn => absurd rfl hn⟩
            have hlen4 : wB.heap.size ≤ wr.heap.size := HG.out.size
            have hEm1 : D.length + 1 ≤ maxLen := by unfold maxLen; omega
            have HRF2 : Hid (frs (D ++ [(⟨me, wi, ep, 0, kn, low, ⟨Nt.zeroN, none, 0⟩⟩ : Mf)]) = RF) := by show _ = _; rw [HRF.out, HDn.out]; rfl
            clear hnw
            go_wp2_with (first
              | (at_builtin; refine wpList_append_own_at _ rfl _ _ 50 rfl wB.heap.size 38 i0 (.agg #[.int .i64 0, .int .i64 0, .int .i64 0, .int .i64 0, .int .i64 0, .int .i64 0, .int .i64 0, .int .i64 0, .int .i64 0, .slice none 0 0, .string ⟨#[]⟩, .int .i64 0]) 12 120 Tryz.underlying50 hi0 hz0 hz1 hz2 rfl (by decide) _ _ _ rfl HFx3.out.own ⟨wr.heap.size, 0, none⟩ 1 1 ([(⟨me, wi, ep, 0, kn, low, ⟨Nt.zeroN, none, 0⟩⟩ : Mf)].flatMap fC) rfl rfl HNw.out (f_one _) hEm1 (by omega) (by simp; omega) ?_)
              | fail)
            intro v'' w8 hown' hgrow _ hat
            have hat : v''.ownBlock = (Value.slice a D.length c).ownBlock ∨ v''.ownBlock = some (wr.heap.size + 1) := by simpa using hat
            have hmo := Fxs.more (x := ⟨me, wi, ep, 0, kn, low, ⟨Nt.zeroN, none, 0⟩⟩) HFx3.out (HM4.out _) (fun hn => absurd rfl hn) hown' hgrow (by simpa using hat)
            obtain ⟨a8, c8', rfl⟩ := hmo.slice
            have HMo := Lib.hid hmo
            have HG8 := Lib.hid (HFx3.out.grown (HG.out.trans HG4.out) hgrow (Nat.le_refl _))
            have HPk8 : Hid (LkAt Z w8 g ⟨me, wi, ep, kn, DL, nx, ⟨low, seen⟩, true⟩) := HP.out.gr HG8.out
            obtain ⟨pa', pc', pE', pa2', pc2', hpk'⟩ := HPk8.out
            have HPk' := Lib.hid hpk'
            have g8 := hpk'.cs.at_ 8 _ rfl
            have gf8 := hpk'.cs.fz 8 (by simp)
            have gl := hpk'.cs.lt
            clear hmo hown' hgrow hat HFx3 HM4 HG4 HNw c8 f8 cl HPk hpk' HFx u0 u1 u2 u3 u4 u5 u6 u7 u8 u9 u10 u11 ult hFBr
            go_wp2
            go_ret
            exact ⟨⟨a8, c8', _, by simp, (HMo.out.low hsB).far HPk'.out.nz HLt.out, HRF2.out⟩, by rw [HR2.out]; exact ⟨_, _, _, _, _, HPk'.out.owe false⟩, (HGB.out.gr HG8.out).trans (gb_set _ _ _ _)⟩
        · have hD0 : ¬ D.length = 0 := fun k => by have := HDz.out.1 k; omega
          have hD1 : ((D.length : Int) == 0) = false := by rw [beq_eq_false_iff_ne]; omega
          have HRF : Hid (frs D = RF) := by
            show _ = _
            have hne : DD ≠ [] := fun k => hF0 (by have := congrArg List.length HEf.out; rw [its_len, k] at this; simpa using this)
            have hie : DD.isEmpty = false := by
              cases DD with
              | nil => exact absurd rfl hne
              | cons x t => rfl
            rw [HR1.out, hie]
            rw [if_neg (by decide), ← HEf.out]
            exact frs_map _ (by have := HDj.out; omega) HA.out
          clear hF0
          go_wp2
          go_ret
          exact ⟨⟨a, c, D, rfl, (HFx.out.low hsB).far HPk.out.nz HLt.out, HRF.out⟩, by rw [HR2.out]; exact ⟨_, _, _, _, _, HPk.out.owe false⟩, HGBr.out.trans (gb_set _ _ _ _)⟩
end Go.Proofs.YthfbpilfdfploaaGreat
