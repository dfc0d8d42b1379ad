/- Parts of these proofs, laid together. -/
import Derived.Test.YthfbpilfdfploaaGreatGM
import Derived.Test.YthfbpilfdfploaaGreatGN
import Derived.Test.YthfbpilfdfploaaGreatGK
namespace Go.Proofs.YthfbpilfdfploaaGreat
open Go.RowKit
open Lk (St)

variable {Z : Nat → Prop}
set_option maxHeartbeats 4000000 in
set_option maxRecDepth 100000 in
theorem kBegin_any (g : Nat) (l : St Nx) (ep now : Int) (w : World) (h : PkAt Z w g l) (hF : Frs Z w) (hk : l.kn < ep) :
    Calls Tryz.prog 29 #[.pointer (some ⟨g, 0, none⟩), .int .i64 ep, .int .i64 now] w fun e w' => (∃ v, e = .returned v) ∧ PkAt Z w' g (Lk.learn CX l ep now) ∧ GB g w w' := by
  have HA : Hid (∀ (l' : St Nx) w', Frs Z w' → PkAt Z w' g l' → Calls Tryz.prog 52 #[.pointer (some ⟨g, 0, none⟩), .int .i64 now] w' fun e w2 => (∃ v, e = .returned v) ∧ PkAt Z w2 g { l' with it := Ox.anew okN l'.it now, nx := ((Ox.anew okN l'.it now).length : Int) + 1 } ∧ GB g w' w2) := fun l' w' h1 h2 => kAnew_any g l' now w' h2 h1
  have HR : Hid (Lk.learn CX l ep now = { l with kn := ep, wn := ⟨0, []⟩, it := Ox.anew okN l.it now, nx := ((Ox.anew okN l.it now).length : Int) + 1 }) := by
    show _ = _
    unfold Lk.learn
    rw [if_pos hk]; rfl
  generalize Lk.learn CX l ep now = R at *
  obtain ⟨a, c, E, a2, c2, h⟩ := h
  have hk1 := h.know ep
  have hk2 := hk1.window (wd_none _) (fun hn => absurd rfl hn)
  have HK := Lib.hid hk2
  have HG := Lib.hid (((gb_set g 5 w (.int .i64 ep)).trans (gb_set g 6 _ (.int .i64 0))).trans (gb_set g 7 _ (.slice none 0 0)))
  have k5 := h.cs.at_ 5 _ rfl
  have f5 := h.cs.fz 5 (by simp)
  have k6 := hk1.cs.at_ 6 _ rfl
  have f6 := hk1.cs.fz 6 (by simp)
  have k7 := hk1.cs.at_ 7 _ rfl
  have f7 := hk1.cs.fz 7 (by simp)
  have kl := h.cs.lt
  have HF2 := Lib.hid (((hF.gb (gb_set g 5 w (.int .i64 ep))).gb (gb_set g 6 _ (.int .i64 0))).gb (gb_set g 7 _ (.slice none 0 0)))
  clear h hk hk1 hk2 hF
  obtain ⟨me, wi, ep', kn, it, nx, wn, ow⟩ := l
  dsimp only at *
  go_enter Tryz.func29, Tryz.ntmps29
  go_wp2_with fail
  refine (HA.out _ _ HF2.out ⟨_, _, _, _, _, HK.out⟩).mono ?_
  rintro e1 w1 ⟨⟨v, rfl⟩, hp1, hgb1⟩
  have HP1 := Lib.hid hp1
  have HG1 := Lib.hid (HG.out.trans hgb1)
  clear hp1 hgb1
  go_wp2
  go_end0
  exact ⟨⟨_, rfl⟩, by rw [HR.out]; exact HP1.out, HG1.out⟩

/- what refuses a frame -/
def rfE (l : St Nx) (f : Lk.Fr Nx) (now : Int) : Int :=
  if CX.fm f = true ∧ f.f = l.wi ∧ f.t = l.me then (if Ox.tmB now = true then (if f.e < l.kn then 200 else 0) else 2) else 130
theorem hold_fr {a b : World} (g : Gr a b) {p q : Nat} {v0 v1 v2 v3 v4 v5 v6 v7 v8 v9 v10 v11 y z : Value} (h0 : a.cell? ⟨p, 0, none⟩ = some v0) (h1 : a.cell? ⟨p, 1, none⟩ = some v1) (h2 : a.cell? ⟨p, 2, none⟩ = some v2) (h3 : a.cell? ⟨p, 3, none⟩ = some v3) (h4 : a.cell? ⟨p, 4, none⟩ = some v4) (h5 : a.cell? ⟨p, 5, none⟩ = some v5) (h6 : a.cell? ⟨p, 6, none⟩ = some v6) (h7 : a.cell? ⟨p, 7, none⟩ = some v7) (h8 : a.cell? ⟨p, 8, none⟩ = some v8) (h9 : a.cell? ⟨p, 9, none⟩ = some v9) (h10 : a.cell? ⟨p, 10, none⟩ = some v10) (h11 : a.cell? ⟨p, 11, none⟩ = some v11) (hy : a.cell? ⟨q, 0, none⟩ = some y) (hz : a.cell? ⟨q, 1, none⟩ = some z) :
    Gr a b ∧ b.cell? ⟨p, 0, none⟩ = some v0 ∧ b.cell? ⟨p, 1, none⟩ = some v1 ∧ b.cell? ⟨p, 2, none⟩ = some v2 ∧ b.cell? ⟨p, 3, none⟩ = some v3 ∧ b.cell? ⟨p, 4, none⟩ = some v4 ∧ b.cell? ⟨p, 5, none⟩ = some v5 ∧ b.cell? ⟨p, 6, none⟩ = some v6 ∧ b.cell? ⟨p, 7, none⟩ = some v7 ∧ b.cell? ⟨p, 8, none⟩ = some v8 ∧ b.cell? ⟨p, 9, none⟩ = some v9 ∧ b.cell? ⟨p, 10, none⟩ = some v10 ∧ b.cell? ⟨p, 11, none⟩ = some v11 ∧ b.cell? ⟨q, 0, none⟩ = some y ∧ b.cell? ⟨q, 1, none⟩ = some z :=
  ⟨g, g.keep h0, g.keep h1, g.keep h2, g.keep h3, g.keep h4, g.keep h5, g.keep h6, g.keep h7, g.keep h8, g.keep h9, g.keep h10, g.keep h11, g.keep hy, g.keep hz⟩
set_option maxHeartbeats 16000000 in
set_option maxRecDepth 100000 in
theorem kRefusal_any (g : Nat) (l : St Nx) (x : Mf) (now : Int) (w : World) (h : PkAt Z w g l) (hm : MnAt Z w x.m) :
    Calls Tryz.prog 28 #[.pointer (some ⟨g, 0, none⟩), x.v, .int .i64 now] w fun e w' => e = .returned (.int .i64 (rfE l x.fr now)) ∧ Gr w w' := by
  have HN : Hid (∀ w', Gr w w' → Calls Tryz.prog 51 #[x.v] w' fun e w2 => e = .returned (.int .i64 (Nt.frE ⟨x.f, x.t, x.e, x.s, x.a, x.c, x.m.x⟩)) ∧ Gr w' w2) := fun w' k => nFrame_any x.f x.t x.e x.s x.a x.c x.m.x.k x.m.x.r x.m.x.n x.m.x.L x.m.x.d x.m.x.y x.m.ad x.m.cap w' (hm.hp.gr k) hm.hl hm.hd hm.hc
  have HT : Hid (∀ w', Calls Tryz.prog 38 #[.int .i64 now] w' fun e w2 => e = .returned (.bool (Ox.tmB now)) ∧ w2 = w') := fun w' => kTime_any now w'
  have HE : Hid (Nt.frE ⟨x.f, x.t, x.e, x.s, x.a, x.c, x.m.x⟩ = if Nt.frB ⟨x.f, x.t, x.e, x.s, x.a, x.c, x.m.x⟩ = true then 0 else 130) := rfl
  have HR : Hid (rfE l x.fr now = if Nt.frB ⟨x.f, x.t, x.e, x.s, x.a, x.c, x.m.x⟩ = true ∧ x.f = l.wi ∧ x.t = l.me then (if Ox.tmB now = true then (if x.e < l.kn then 200 else 0) else 2) else 130) := rfl
  obtain ⟨a, c, E, a2, c2, h⟩ := h
  have HC := Lib.hid h.cs
  clear h hm
  generalize rfE l x.fr now = R at *
  generalize Nt.frE ⟨x.f, x.t, x.e, x.s, x.a, x.c, x.m.x⟩ = fe at *
  generalize Nt.frB ⟨x.f, x.t, x.e, x.s, x.a, x.c, x.m.x⟩ = fb at *
  generalize Ox.tmB now = tb at *
  obtain ⟨f, t, ep, s, ae, ac, ⟨⟨k0, r, n, L, d, y⟩, ad, cap⟩⟩ := x
  obtain ⟨me, wi, ep', kn, it, nx, wn, ow⟩ := l
  dsimp only [Mf.v] at *
  generalize L.length = ll at *
  have B0 := Cs.new w [.int .i64 f, .int .i64 t, .int .i64 ep, .int .i64 s, .int .i64 ae, .int .i64 ac, .int .i64 k0, .int .i64 r, .int .i64 n, .slice ad ll cap, .string d, .int .i64 y] 38 _ rfl
  obtain ⟨W1, hW1⟩ : ∃ W1, W1 = w.alloc (.cells #[.int .i64 f, .int .i64 t, .int .i64 ep, .int .i64 s, .int .i64 ae, .int .i64 ac, .int .i64 k0, .int .i64 r, .int .i64 n, .slice ad ll cap, .string d, .int .i64 y] 38) := ⟨_, rfl⟩
  have hg1 : Gr w W1 := by rw [hW1]; exact (Gr.refl _).alloc
  have B1 : Cs W1 w.heap.size [.int .i64 f, .int .i64 t, .int .i64 ep, .int .i64 s, .int .i64 ae, .int .i64 ac, .int .i64 k0, .int .i64 r, .int .i64 n, .slice ad ll cap, .string d, .int .i64 y] := by rw [hW1]; exact B0
  have HG1 := Lib.hid hg1
  have HB1 := Lib.hid B1
  have HC1 := Lib.hid (HC.out.gr hg1)
  have z0 := B1.at_ 0 _ rfl
  have z1 := B1.at_ 1 _ rfl
  have z2 := B1.at_ 2 _ rfl
  have z3 := B1.at_ 3 _ rfl
  have z4 := B1.at_ 4 _ rfl
  have z5 := B1.at_ 5 _ rfl
  have z6 := B1.at_ 6 _ rfl
  have z7 := B1.at_ 7 _ rfl
  have z8 := B1.at_ 8 _ rfl
  have z9 := B1.at_ 9 _ rfl
  have z10 := B1.at_ 10 _ rfl
  have z11 := B1.at_ 11 _ rfl
  have zf0 := B1.fz 0 (by simp)
  have zf1 := B1.fz 1 (by simp)
  have zf2 := B1.fz 2 (by simp)
  have zf3 := B1.fz 3 (by simp)
  have zf4 := B1.fz 4 (by simp)
  have zf5 := B1.fz 5 (by simp)
  have zf6 := B1.fz 6 (by simp)
  have zf7 := B1.fz 7 (by simp)
  have zf8 := B1.fz 8 (by simp)
  have zf9 := B1.fz 9 (by simp)
  have zf10 := B1.fz 10 (by simp)
  have zf11 := B1.fz 11 (by simp)
  have zlt := B1.lt
  have y0 := HC1.out.at_ 0 _ rfl
  have y1 := HC1.out.at_ 1 _ rfl
  have yl := HC1.out.lt
  clear B0 hg1 B1 HC zf0 zf1 zf2 zf3 zf4 zf5 zf6 zf7 zf8 zf9 zf10 zf11
  go_enter Tryz.func28, Tryz.ntmps28
  go_wp2_with fail
  rw [← hW1]
  clear hW1
  refine wp_region_held_drew (S := (fun w' => Gr W1 w' ∧ w'.cell? ⟨w.heap.size, 0, none⟩ = some (.int .i64 f) ∧ w'.cell? ⟨w.heap.size, 1, none⟩ = some (.int .i64 t) ∧ w'.cell? ⟨w.heap.size, 2, none⟩ = some (.int .i64 ep) ∧ w'.cell? ⟨w.heap.size, 3, none⟩ = some (.int .i64 s) ∧ w'.cell? ⟨w.heap.size, 4, none⟩ = some (.int .i64 ae) ∧ w'.cell? ⟨w.heap.size, 5, none⟩ = some (.int .i64 ac) ∧ w'.cell? ⟨w.heap.size, 6, none⟩ = some (.int .i64 k0) ∧ w'.cell? ⟨w.heap.size, 7, none⟩ = some (.int .i64 r) ∧ w'.cell? ⟨w.heap.size, 8, none⟩ = some (.int .i64 n) ∧ w'.cell? ⟨w.heap.size, 9, none⟩ = some (.slice ad ll cap) ∧ w'.cell? ⟨w.heap.size, 10, none⟩ = some (.string d) ∧ w'.cell? ⟨w.heap.size, 11, none⟩ = some (.int .i64 y) ∧ w'.cell? ⟨g, 0, none⟩ = some (.int .i64 me) ∧ w'.cell? ⟨g, 1, none⟩ = some (.int .i64 wi))) (by kernel_rfl) (by exact hold_fr (by repeat(first|exact Gr.r _|refine Gr.a ?_|refine Gr.d ?_|refine Gr.t ?_ (by assumption))) z0 z1 z2 z3 z4 z5 z6 z7 z8 z9 z10 z11 y0 y1) (fun hHeld => ?_)
  refine ty 0 8 hHeld ?_
  refine wpAnyH_ready (rs := [1]) (by kernel_rfl) (by simp) (AllReadyH.cons rfl (fun K hK => ?_) AllReadyH.nil)
  go_simp
  (go_at_call 51; refine (HN.out _ (HG1.out.trans hHeld.1)).mono ?_; rintro e wn' ⟨rfl, hgn⟩)
  (try go_wp2_with fail)
  refine hK.out _ _ (by exact hold_fr (by repeat(first|exact Gr.r _|refine Gr.a ?_|refine Gr.d ?_|refine Gr.t ?_ (by assumption))) z0 z1 z2 z3 z4 z5 z6 z7 z8 z9 z10 z11 y0 y1) (fun hHeldN => ?_)
  clear hHeld hK K
  have hHeld := hHeldN
  clear hHeldN
  clear z0 z1 z2 z3 z4 z5 z6 z7 z8 z9 z10 z11 y0 y1 yl zlt HN
  cases fb with
  | false =>
    have hfe : fe = 130 := HE.out
    have hR : R = 130 := by rw [HR.out, if_neg (by simp)]
    subst hfe hR
    clear HE HR HT
    refine ty 2 10 hHeld ?_
    refine ty 3 11 hHeld ?_
    refine tn 4 12 hHeld ?_
    refine tn 5 13 hHeld ?_
    refine tn 6 14 hHeld ?_
    refine tn 7 15 hHeld ?_
    refine tn 8 16 hHeld ?_
    refine tn 9 17 hHeld ?_
    refine tn 10 18 hHeld ?_
    refine tn 11 19 hHeld ?_
    refine ty 12 20 hHeld ?_
    refine ty 13 21 hHeld ?_
    refine tn 14 22 hHeld ?_
    refine tn 15 23 hHeld ?_
    refine tn 16 24 hHeld ?_
    refine tn 17 25 hHeld ?_
    refine tn 18 26 hHeld ?_
    refine tn 19 27 hHeld ?_
    refine tn 20 28 hHeld ?_
    refine tn 21 29 hHeld ?_
    refine ty 22 30 hHeld ?_
    refine ty 23 7 hHeld ?_
    refine wpAnyH_done (by kernel_rfl) ?_ _
    go_wp2
    go_ret
    exact ⟨rfl, HG1.out.trans hHeld.1⟩
  | true =>
    have hfe : fe = 0 := HE.out
    subst hfe
    clear HE
    by_cases q1 : f = wi
    · by_cases q2 : t = me
      · have hR : Hid (R = (if tb = true then (if ep < kn then 200 else 0) else 2)) := by show _ = _; rw [HR.out, if_pos ⟨rfl, q1, q2⟩]
        have q1b : (f != wi) = false := by simp [q1]
        have q2b : (t != me) = false := by simp [q2]
        clear q1 q2 HR
        refine ty 2 10 hHeld ?_
        refine ty 3 11 hHeld ?_
        refine ty 4 12 hHeld ?_
        refine ty 5 13 hHeld ?_
        refine ty 6 14 hHeld ?_
        refine ty 7 15 hHeld ?_
        refine ty 8 16 hHeld ?_
        refine ty 9 17 hHeld ?_
        refine ty 10 18 hHeld ?_
        refine ty 11 19 hHeld ?_
        refine ty 12 20 hHeld ?_
        refine ty 13 21 hHeld ?_
        refine ty 14 22 hHeld ?_
        refine ty 15 23 hHeld ?_
        refine ty 16 24 hHeld ?_
        refine ty 17 25 hHeld ?_
        refine ty 18 26 hHeld ?_
        refine ty 19 27 hHeld ?_
        refine ty 20 28 hHeld ?_
        refine ty 21 29 hHeld ?_
        refine ty 22 30 hHeld ?_
        refine ty 23 7 hHeld ?_
        refine wpAnyH_done (by kernel_rfl) ?_ _
        have HGf := Lib.hid (HG1.out.trans hHeld.1)
        have HBf := Lib.hid (HB1.out.gr hHeld.1)
        have HCf := Lib.hid (HC1.out.gr hHeld.1)
        clear hHeld HG1 HB1 HC1
        cases tb with
        | false =>
          go_wp2_with fail
          refine (HT.out _).mono ?_
          rintro e2 w2 ⟨rfl, hw2⟩; obtain rfl := hw2.symm
          go_wp2
          go_ret
          exact ⟨by rw [hR.out]; rfl, HGf.out⟩
        | true =>
          have z2 := HBf.out.at_ 2 _ rfl
          have zlt := HBf.out.lt
          have y5 := HCf.out.at_ 5 _ rfl
          have yl := HCf.out.lt
          by_cases q3 : ep < kn
          · have hR2 : Hid (R = 200) := by show _ = _; rw [hR.out, if_pos rfl, if_pos q3]
            clear hR
            go_wp2_with fail
            refine (HT.out _).mono ?_
            rintro e2 w2 ⟨rfl, hw2⟩; obtain rfl := hw2.symm
            go_wp2
            go_region
            all_goals
              go_wp2
              go_ret
              exact ⟨by rw [hR2.out]; rfl, HGf.out.drew⟩
          · have hR2 : Hid (R = 0) := by show _ = _; rw [hR.out, if_pos rfl, if_neg q3]
            clear hR
            go_wp2_with fail
            refine (HT.out _).mono ?_
            rintro e2 w2 ⟨rfl, hw2⟩; obtain rfl := hw2.symm
            go_wp2
            go_region
            all_goals
              go_wp2
              go_ret
              exact ⟨by rw [hR2.out]; rfl, HGf.out.drew⟩
      · have hR : R = 130 := by rw [HR.out, if_neg (fun k => q2 k.2.2)]
        subst hR
        have q1b : (f != wi) = false := by simp [q1]
        have q2b : (t != me) = true := bne_iff_ne.2 q2
        clear q1 q2 HR HT
        refine ty 2 10 hHeld ?_
        refine ty 3 11 hHeld ?_
        refine ty 4 12 hHeld ?_
        refine ty 5 13 hHeld ?_
        refine ty 6 14 hHeld ?_
        refine ty 7 15 hHeld ?_
        refine ty 8 16 hHeld ?_
        refine ty 9 17 hHeld ?_
        refine ty 10 18 hHeld ?_
        refine ty 11 19 hHeld ?_
        refine ty 12 20 hHeld ?_
        refine ty 13 21 hHeld ?_
        refine ty 14 22 hHeld ?_
        refine ty 15 23 hHeld ?_
        refine ty 16 24 hHeld ?_
        refine ty 17 25 hHeld ?_
        refine ty 18 26 hHeld ?_
        refine ty 19 27 hHeld ?_
        refine ty 20 28 hHeld ?_
        refine ty 21 29 hHeld ?_
        refine ty 22 30 hHeld ?_
        refine ty 23 7 hHeld ?_
        refine wpAnyH_done (by kernel_rfl) ?_ _
        go_wp2
        go_ret
        exact ⟨rfl, HG1.out.trans hHeld.1⟩
    · have hR : R = 130 := by rw [HR.out, if_neg (fun k => q1 k.2.1)]
      subst hR
      have q1b : (f != wi) = true := bne_iff_ne.2 q1
      clear q1 HR HT
      refine ty 2 10 hHeld ?_
      refine ty 3 11 hHeld ?_
      refine ty 4 12 hHeld ?_
      refine ty 5 13 hHeld ?_
      refine ty 6 14 hHeld ?_
      refine ty 7 15 hHeld ?_
      refine ty 8 16 hHeld ?_
      refine ty 9 17 hHeld ?_
      refine ty 10 18 hHeld ?_
      refine ty 11 19 hHeld ?_
      refine ty 12 20 hHeld ?_
      refine ty 13 21 hHeld ?_
      refine tn 14 22 hHeld ?_
      refine tn 15 23 hHeld ?_
      refine tn 16 24 hHeld ?_
      refine tn 17 25 hHeld ?_
      refine tn 18 26 hHeld ?_
      refine tn 19 27 hHeld ?_
      refine tn 20 28 hHeld ?_
      refine tn 21 29 hHeld ?_
      refine ty 22 30 hHeld ?_
      refine ty 23 7 hHeld ?_
      refine wpAnyH_done (by kernel_rfl) ?_ _
      go_wp2
      go_ret
      exact ⟨rfl, HG1.out.trans hHeld.1⟩
end Go.Proofs.YthfbpilfdfploaaGreat
namespace Go.Proofs.YthfbpilfdfploaaGreat
open Go.RowKit
open Lk (St)

variable {Z : Nat → Prop}
/- what Tick answers -/
def TkF (Z : Nat → Prop) (R : List (Lk.Fr Nx)) (w : World) (e : Ending) (w' : World) : Prop :=
  ∃ a c D, e = .returned (.slice a D.length c) ∧ Fxs Z w' w.heap.size (.slice a D.length c) D ∧ frs D = R
theorem due_len {l : List (Ox.It Nx)} {now : Int} : (Ox.dueD okN l now).length ≤ 12 := by
  unfold Ox.dueD
  split
  · rename_i hc
    rw [List.length_map]
    exact Nat.le_trans (List.length_filter_le _ _) ((Ox.mayB_iff _ _).1 hc.1).len
  · simp
theorem its_none {F : List Mi} {l : List (Ox.It Nx)} (h : its F = l) (h0 : F.length = 0) : l = [] := by
  rw [← h, List.length_eq_zero_iff.1 h0]; rfl
theorem frs_map (l : St Nx) {F : List Mi} {D : List Mf} (hl : D.length = F.length) (hD : ∀ (i : Nat) (h1 : i < D.length) (h2 : i < F.length), D[i].fr = Lk.frm l F[i].q (pk F[i].m.x)) : frs D = (its F).map (fun x => Lk.frm l x.q x.n) := by
  refine List.ext_getElem ?_ (fun i h1 h2 => ?_)
  · rw [frs_len, List.length_map, its_len, hl]
  · have h1' : i < D.length := by rw [frs_len] at h1; exact h1
    have h2' : i < F.length := by omega
    have e1 : (frs D)[i] = D[i].fr := by simp only [frs, List.getElem_map]
    rw [List.getElem_map, its_get F i h2', e1]
    exact hD i h1' h2'
set_option maxHeartbeats 16000000 in
set_option maxRecDepth 100000 in
theorem kTick_any (g : Nat) (l : St Nx) (now : Int) (w : World) (h : PkAt Z w g l) (he : l.ep ≠ 0) (hF : Frs Z w) :
    Calls Tryz.prog 14 #[.pointer (some ⟨g, 0, none⟩), .int .i64 now] w fun e w' => TkF Z (Lk.tickF CX l now) w e w' ∧ PkAt Z w' g (Lk.tickS CX l now) ∧ GB g w w' := by
  obtain ⟨i0, hi0, hz0, hz1, hz2⟩ := info_parts infoFrame
  have HM : Hid (Calls Tryz.prog 23 #[.pointer (some ⟨g, 0, none⟩)] w fun e w2 => e = .returned (.bool true) ∧ w2 = w) := by
    obtain ⟨a, c, E, a2, c2, h⟩ := h
    have := made_any g l.ep w (h.cs.at_ 2 _ rfl)
    rwa [decide_eq_false he] at this
  have HT : Hid (∀ w', Calls Tryz.prog 38 #[.int .i64 now] w' fun e w2 => e = .returned (.bool (Ox.tmB now)) ∧ w2 = w') := fun w' => kTime_any now w'
  cases ht : Ox.tmB now with
  | false =>
    rw [ht] at HT
    have HR : Hid (TkF Z (Lk.tickF CX l now) w (.returned (.slice none 0 0)) w ∧ PkAt Z w g (Lk.tickS CX l now) ∧ GB g w w) := by
      unfold Lk.tickF Lk.tickS
      rw [ht, if_neg (by decide), if_neg (by decide)]
      exact ⟨⟨none, 0, [], rfl, Fxs.nil _ _, rfl⟩, h, GB.refl _ _⟩
    clear h hF he ht
    go_enter Tryz.func14, Tryz.ntmps14
    go_wp2_with fail
    refine HM.out.mono ?_
    rintro e1 w1 ⟨rfl, hw1⟩; obtain rfl := hw1.symm
    go_wp2_with fail
    refine (HT.out _).mono ?_
    rintro e1 w1 ⟨rfl, hw1⟩; obtain rfl := hw1.symm
    go_wp2
    go_ret
    exact HR.out
  | true =>
    rw [ht] at HT
    have HD : Hid (Calls Tryz.prog 39 #[.pointer (some ⟨g, 0, none⟩), .int .i64 now] w fun e w' => ∃ b d F, e = .returned (.slice b F.length d) ∧ Bxs Z w' w.heap.size (.slice b F.length d) F ∧ its F = Ox.dueD okN l.it now ∧ PkAt Z w' g { l with it := Ox.dueL okN l.it now } ∧ GB g w w') := kDue_any g l now w h hF
    have HR1 : Hid (Lk.tickF CX l now = if (Ox.dueD okN l.it now).isEmpty then (if l.ow then [Lk.frm l 0 CX.z] else []) else (Ox.dueD okN l.it now).map (fun x => Lk.frm l x.q x.n)) := by
      show _ = _
      unfold Lk.tickF
      rw [ht, if_pos rfl]; rfl
    have HR2 : Hid (Lk.tickS CX l now = { l with it := Ox.dueL okN l.it now, ow := false }) := by
      show _ = _
      unfold Lk.tickS
      rw [ht, if_pos rfl]; rfl
    have HDl := Lib.hid (due_len (l := l.it) (now := now))
    have hFw := Lib.hid hF
    have HLt := Lib.hid h.lt
    generalize Lk.tickF CX l now = RF at *
    generalize Lk.tickS CX l now = RS at *
    generalize Ox.dueD okN l.it now = DD at *
    generalize Ox.dueL okN l.it now = DL at *
    have HFrm : Hid (∀ (m : Mn) (q : Int) (w' : World) (l' : St Nx), PkAt Z w' g l' → Calls Tryz.prog 40 #[.pointer (some ⟨g, 0, none⟩), .int .i64 q, m.v] w' fun e w2 => e = .returned (Mf.v ⟨l'.me, l'.wi, l'.ep, q, l'.kn, l'.wn.low, m⟩) ∧ Gr w' w2) := fun m q w' l' k => kFrame_any g l' q m w' k
    clear h hF he ht
    obtain ⟨me, wi, ep, kn, it, nx, wn, ow⟩ := l
    dsimp only at *
    go_enter Tryz.func14, Tryz.ntmps14
    go_wp2_with fail
    refine HM.out.mono ?_
    rintro e1 w1 ⟨rfl, hw1⟩; obtain rfl := hw1.symm
    go_wp2_with fail
    refine (HT.out _).mono ?_
    rintro e1 w1 ⟨rfl, hw1⟩; obtain rfl := hw1.symm
    go_wp2_with fail
    refine HD.out.mono ?_
    rintro e2 w1 ⟨b0, d0, F, rfl, hb, heF, hP, hgb⟩
    obtain ⟨_, _, ee, hb1, hb2, hit, hb3⟩ := hb.at
    cases ee
    have HIt := Lib.hid hit
    have HEf := Lib.hid heF
    have HP := Lib.hid hP
    have HGB := Lib.hid hgb
    have hFl : F.length ≤ 12 := by rw [← its_len F, heF]; exact HDl.out
    have hs1 : w.heap.size ≤ w1.heap.size := hgb.size
    clear hb heF hP hgb hit HD HM HT
    go_wp2
    go_loopw [5, 22] (fun s5 s22 wr => ∃ (j : Nat) (a : Option Addr) (c : Nat) (D : List Mf), s22 = .int .i64 j ∧ s5 = .slice a D.length c ∧ j ≤ F.length ∧ D.length = j ∧ (∀ (i : Nat) (h1 : i < D.length) (h2 : i < F.length), D[i].fr = Lk.frm ⟨me, wi, ep, kn, it, nx, wn, ow⟩ F[i].q (pk F[i].m.x)) ∧ Fxs Z wr w1.heap.size (.slice a D.length c) D ∧ Gr w1 wr) (fun _ s22 _ => F.length - (intOf s22).toNat)
    case atStart => exact ⟨0, none, 0, [], rfl, rfl, Nat.zero_le _, rfl, fun i h => absurd h (Nat.not_lt_zero _), Fxs.nil _ _, Gr.refl _⟩
    case round =>
      obtain ⟨j, a, c, D, rfl, rfl, hj, hDj, hall, hfx, hg⟩ := hrel
      have HG := Lib.hid hg
      have HA := Lib.hid hall
      have HFx := Lib.hid hfx
      have HDj := Lib.hid hDj
      clear hall hfx
      have hDl : D.length ≤ 12 := by omega
      have hdj : (D.length = 0 ↔ j = 0) := by omega
      have HDz := Lib.hid hdj
      clear hDj hdj
      by_cases hlt : j < F.length
      · obtain ⟨b, off, rfl, hbl, d0, d1, d2, d3, d4, d5, d6, d7, d8⟩ := ItsRow.at HIt.out.row j hlt
        have d0 := hg.keep d0
        have d1 := hg.keep d1
        have d2 := hg.keep d2
        have d3 := hg.keep d3
        have d4 := hg.keep d4
        have d5 := hg.keep d5
        have d6 := hg.keep d6
        have d7 := hg.keep d7
        have d8 := hg.keep d8
        have hbw : b < wr.heap.size := Nat.lt_of_lt_of_le hbl hg.size
        have hji : (j : Int) < (F.length : Int) := by omega
        have hj0 : (0 : Int) ≤ (j : Int) := by omega
        have HNx := Lib.hid (HIt.out.nt F[j] (List.getElem_mem hlt))
        have HPr := Lib.hid (HP.out.gr hg)
        have HAn : Hid (∀ x : Mf, x.fr = Lk.frm ⟨me, wi, ep, kn, it, nx, wn, ow⟩ F[j].q (pk F[j].m.x) → ∀ (i : Nat) (h1 : i < (D ++ [x]).length) (h2 : i < F.length), (D ++ [x])[i].fr = Lk.frm ⟨me, wi, ep, kn, it, nx, wn, ow⟩ F[i].q (pk F[i].m.x)) := by
          intro x hx i h1 h2
          by_cases hi : i < D.length
          · rw [List.getElem_append_left hi]; exact HA.out i hi h2
          · have hij : i = j := by have := HDj.out; rw [List.length_append, List.length_singleton] at h1; omega
            subst hij
            have := HDj.out
            rw [List.getElem_append_right (by omega)]
            simpa using hx
        clear hg
        generalize F[j] = x at *
        obtain ⟨q, dd, s, ⟨⟨k0, r, n, L, dt, y⟩, ax, cx⟩⟩ := x
        dsimp only [Mn.v, Mi.v, Mf.v] at *
        have hEm1 : D.length + 1 ≤ maxLen := by unfold maxLen; omega
        obtain ⟨W2, hW2⟩ : ∃ W2, W2 = wr.alloc (.cells #[.int .i64 q, .int .i64 dd, .int .i64 s, .int .i64 k0, .int .i64 r, .int .i64 n, .slice ax L.length cx, .string dt, .int .i64 y] 73) := ⟨_, rfl⟩
        have gst : Gr wr W2 := by rw [hW2]; exact (Gr.refl _).alloc
        have HCl : Hid (Calls Tryz.prog 40 #[.pointer (some ⟨g, 0, none⟩), .int .i64 q, .agg #[.int .i64 k0, .int .i64 r, .int .i64 n, .slice ax L.length cx, .string dt, .int .i64 y]] W2 fun e w2 => e = .returned (.agg #[.int .i64 me, .int .i64 wi, .int .i64 ep, .int .i64 q, .int .i64 kn, .int .i64 wn.low, .int .i64 k0, .int .i64 r, .int .i64 n, .slice ax L.length cx, .string dt, .int .i64 y]) ∧ Gr W2 w2) := HFrm.out ⟨⟨k0, r, n, L, dt, y⟩, ax, cx⟩ q W2 _ (HPr.out.gr gst)
        have HGs := Lib.hid gst
        subst hW2
        clear gst
        go_wp2_with fail
        refine HCl.out.mono ?_
        rintro e3 w3 ⟨rfl, hg3⟩
        have HG3 : Hid (Gr wr w3) := HGs.out.trans hg3
        have HFx3 := Lib.hid ((HFx.out.gr HG3.out).gr ((Gr.refl w3).alloc (o := .cells #[.int .i64 me, .int .i64 wi, .int .i64 ep, .int .i64 q, .int .i64 kn, .int .i64 wn.low, .int .i64 k0, .int .i64 r, .int .i64 n, .slice ax L.length cx, .string dt, .int .i64 y] 38)))
        have HG4 : Hid (Gr w1 (w3.alloc (.cells #[.int .i64 me, .int .i64 wi, .int .i64 ep, .int .i64 q, .int .i64 kn, .int .i64 wn.low, .int .i64 k0, .int .i64 r, .int .i64 n, .slice ax L.length cx, .string dt, .int .i64 y] 38))) := (HG.out.trans HG3.out).alloc
        have HM4 := Lib.hid (HNx.out.gr HG4.out)
        have hnw := f_new w3 ⟨me, wi, ep, q, kn, wn.low, ⟨⟨k0, r, n, L, dt, y⟩, ax, cx⟩⟩ 38
        rw [show (fC ⟨me, wi, ep, q, kn, wn.low, ⟨⟨k0, r, n, L, dt, y⟩, ax, cx⟩⟩).toArray = #[.int .i64 me, .int .i64 wi, .int .i64 ep, .int .i64 q, .int .i64 kn, .int .i64 wn.low, .int .i64 k0, .int .i64 r, .int .i64 n, .slice ax L.length cx, .string dt, .int .i64 y] from rfl] at hnw
        have HNw := Lib.hid hnw
        have hlen4 : w1.heap.size ≤ w3.heap.size := Nat.le_trans HG.out.size HG3.out.size
        have HAp : Hid (L ≠ [] → ∀ p, ax = some p → (Value.slice a D.length c).ownBlock ≠ some p.block) := by
          intro hne p e kk
          have h1 := (HFx.out.own.lt _ kk).1
          have h2 := hops_lt HNx.out.hp hne e
          omega
        have HAx := Lib.hid (HAn.out ⟨me, wi, ep, q, kn, wn.low, ⟨⟨k0, r, n, L, dt, y⟩, ax, cx⟩⟩ rfl)
        clear hg3 hnw d0 d1 d2 d3 d4 d5 d6 d7 d8 HCl HGs HAn
        generalize wn.low = lo at *
        go_wp2_with (first
          | (at_builtin; refine wpList_append_own_at _ rfl _ _ 50 rfl w1.heap.size 38 i0 (.agg #[.int .i64 0, .int .i64 0, .int .i64 0, .int .i64 0, .int .i64 0, .int .i64 0, .int .i64 0, .int .i64 0, .int .i64 0, .slice none 0 0, .string ⟨#[]⟩, .int .i64 0]) 12 120 Tryz.underlying50 hi0 hz0 hz1 hz2 rfl (by decide) _ _ _ rfl HFx3.out.own ⟨w3.heap.size, 0, none⟩ 1 1 ([(⟨me, wi, ep, q, kn, lo, ⟨⟨k0, r, n, L, dt, y⟩, ax, cx⟩⟩ : Mf)].flatMap fC) rfl rfl HNw.out (f_one _) hEm1 (by omega) (by simp; omega) ?_)
          | fail)
        intro v'' w8 hown' hgrow _ hat
        have hat : v''.ownBlock = (Value.slice a D.length c).ownBlock ∨ v''.ownBlock = some (w3.heap.size + 1) := by simpa using hat
        have hmo := Fxs.more (x := ⟨me, wi, ep, q, kn, lo, ⟨⟨k0, r, n, L, dt, y⟩, ax, cx⟩⟩) HFx3.out HM4.out HAp.out hown' hgrow (by simpa using hat)
        obtain ⟨a8, c8, rfl⟩ := hmo.slice
        have HMo := Lib.hid hmo
        have HG8 := Lib.hid (HFx3.out.grown HG4.out hgrow (Nat.le_refl _))
        clear hmo hown' hgrow hat HFx3 HM4 HG4 HNw
        go_wp2
        go_roundw
        case rel => exact ⟨j + 1, a8, c8, D ++ [(⟨me, wi, ep, q, kn, lo, ⟨⟨k0, r, n, L, dt, y⟩, ax, cx⟩⟩ : Mf)], by go_num, by simp, by omega, by have := HDj.out; simp; omega, HAx.out, HMo.out, HG8.out⟩
        case measure => simp [intOf]; omega
      · have hge : ¬ ((j : Int) < (F.length : Int)) := by omega
        have HPr := Lib.hid (HP.out.gr hg)
        have HGBr := Lib.hid (HGB.out.gr hg)
        obtain ⟨pa, pc, pE, pa2, pc2, hpk⟩ := HPr.out
        have HPk := Lib.hid hpk
        have c8 := hpk.cs.at_ 8 _ rfl
        have f8 := hpk.cs.fz 8 (by simp)
        have cl := hpk.cs.lt
        dsimp only at c8
        clear hpk hg
        by_cases hF0 : F.length = 0
        · have hD0 : D.length = 0 := HDz.out.2 (by omega)
          have HDn : Hid (D = []) := List.length_eq_zero_iff.1 hD0
          have hD1 : ((D.length : Int) == 0) = true := by rw [beq_iff_eq]; omega
          have HDD := Lib.hid (its_none HEf.out hF0)
          clear hD0
          cases ow with
          | false =>
            have HRF : Hid (RF = []) := by show _ = _; rw [HR1.out, HDD.out]; rfl
            go_wp2
            go_ret
            exact ⟨⟨a, c, D, rfl, (HFx.out.low hs1).far HPk.out.nz HLt.out, by rw [HRF.out, HDn.out]; rfl⟩, by rw [HR2.out]; exact ⟨_, _, _, _, _, HPk.out.owe false⟩, HGBr.out.trans (gb_set _ _ _ _)⟩
          | true =>
            have HRF : Hid (RF = [Lk.frm ⟨me, wi, ep, kn, it, nx, wn, true⟩ 0 CX.z]) := by show _ = _; rw [HR1.out, HDD.out]; rfl
            have HCl : Hid (∀ w', Gr wr w' → Calls Tryz.prog 40 #[.pointer (some ⟨g, 0, none⟩), .int .i64 0, .agg #[.int .i64 0, .int .i64 0, .int .i64 0, .slice none 0 0, .string ⟨#[]⟩, .int .i64 0]] w' fun e w2 => e = .returned (.agg #[.int .i64 me, .int .i64 wi, .int .i64 ep, .int .i64 0, .int .i64 kn, .int .i64 wn.low, .int .i64 0, .int .i64 0, .int .i64 0, .slice none 0 0, .string ⟨#[]⟩, .int .i64 0]) ∧ Gr w' w2) := fun w' k => HFrm.out ⟨Nt.zeroN, none, 0⟩ 0 w' _ (HPr.out.gr k)
            go_wp2_with fail
            refine (HCl.out _ ?_).mono ?_
            · exact (by repeat(first|exact Gr.r _|refine Gr.a ?_|refine Gr.d ?_|refine Gr.t ?_ (by assumption)))
            rintro e3 w3 ⟨rfl, hg3⟩
            have HG3 : Hid (Gr wr w3) := (by repeat(first|exact Gr.r _|refine Gr.a ?_|refine Gr.d ?_|refine Gr.t ?_ (by assumption)))
            have HFx3 := Lib.hid ((HFx.out.gr HG3.out).gr ((Gr.refl w3).alloc (o := .cells #[.int .i64 me, .int .i64 wi, .int .i64 ep, .int .i64 0, .int .i64 kn, .int .i64 wn.low, .int .i64 0, .int .i64 0, .int .i64 0, .slice none 0 0, .string ⟨#[]⟩, .int .i64 0] 38)))
            have HG4 : Hid (Gr wr (w3.alloc (.cells #[.int .i64 me, .int .i64 wi, .int .i64 ep, .int .i64 0, .int .i64 kn, .int .i64 wn.low, .int .i64 0, .int .i64 0, .int .i64 0, .slice none 0 0, .string ⟨#[]⟩, .int .i64 0] 38))) := HG3.out.alloc
            have hnw := f_new w3 ⟨me, wi, ep, 0, kn, wn.low, ⟨Nt.zeroN, none, 0⟩⟩ 38
            rw [show (fC ⟨me, wi, ep, 0, kn, wn.low, ⟨Nt.zeroN, none, 0⟩⟩).toArray = #[.int .i64 me, .int .i64 wi, .int .i64 ep, .int .i64 0, .int .i64 kn, .int .i64 wn.low, .int .i64 0, .int .i64 0, .int .i64 0, .slice none 0 0, .string ⟨#[]⟩, .int .i64 0] from rfl] at hnw
            have HNw := Lib.hid hnw
            have HM4 : Hid (∀ w', MnAt Z w' (⟨Nt.zeroN, none, 0⟩ : Mn)) := fun w' => ⟨fun j hj => absurd hj (by simp [Nt.zeroN]), by simp [Nt.zeroN], by simp [Nt.zeroN], by decide, fun hn => absurd rfl hn⟩
            have hlen4 : w1.heap.size ≤ w3.heap.size := Nat.le_trans HG.out.size HG3.out.size
            have hEm1 : D.length + 1 ≤ maxLen := by unfold maxLen; omega
            have HRF2 : Hid (frs (D ++ [(⟨me, wi, ep, 0, kn, wn.low, ⟨Nt.zeroN, none, 0⟩⟩ : Mf)]) = RF) := by show _ = _; rw [HRF.out, HDn.out]; rfl
            have HAp : Hid (∀ x ∈ D, False) := fun x hx => by rw [HDn.out] at hx; cases hx
            clear hg3 hnw
            generalize wn.low = lo at *
            go_wp2_with (first
              | (at_builtin; refine wpList_append_own_at _ rfl _ _ 50 rfl w1.heap.size 38 i0 (.agg #[.int .i64 0, .int .i64 0, .int .i64 0, .int .i64 0, .int .i64 0, .int .i64 0, .int .i64 0, .int .i64 0, .int .i64 0, .slice none 0 0, .string ⟨#[]⟩, .int .i64 0]) 12 120 Tryz.underlying50 hi0 hz0 hz1 hz2 rfl (by decide) _ _ _ rfl HFx3.out.own ⟨w3.heap.size, 0, none⟩ 1 1 ([(⟨me, wi, ep, 0, kn, lo, ⟨Nt.zeroN, none, 0⟩⟩ : Mf)].flatMap fC) rfl rfl HNw.out (f_one _) hEm1 (by omega) (by simp; omega) ?_)
              | fail)
            intro v'' w8 hown' hgrow _ hat
            have hat : v''.ownBlock = (Value.slice a D.length c).ownBlock ∨ v''.ownBlock = some (w3.heap.size + 1) := by simpa using hat
            have hmo := Fxs.more (x := ⟨me, wi, ep, 0, kn, lo, ⟨Nt.zeroN, none, 0⟩⟩) HFx3.out (HM4.out _) (fun hn => absurd rfl hn) hown' hgrow (by simpa using hat)
            obtain ⟨a8, c8', rfl⟩ := hmo.slice
            have HMo := Lib.hid hmo
            have HG8 := Lib.hid (HFx3.out.grown (HG.out.trans HG4.out) hgrow (Nat.le_refl _))
            have HPk8 : Hid (PkAt Z w8 g ⟨me, wi, ep, kn, DL, nx, wn, true⟩) := HP.out.gr HG8.out
            obtain ⟨pa', pc', pE', pa2', pc2', hpk'⟩ := HPk8.out
            have HPk' := Lib.hid hpk'
            have g8 := hpk'.cs.at_ 8 _ rfl
            have gf8 := hpk'.cs.fz 8 (by simp)
            have gl := hpk'.cs.lt
            clear hmo hown' hgrow hat HFx3 HM4 HG4 HNw c8 f8 cl HPk hpk' HFx
            go_wp2
            go_ret
            exact ⟨⟨a8, c8', _, by simp, (HMo.out.low hs1).far HPk'.out.nz HLt.out, HRF2.out⟩, by rw [HR2.out]; exact ⟨_, _, _, _, _, HPk'.out.owe false⟩, (HGB.out.gr HG8.out).trans (gb_set _ _ _ _)⟩
        · have hD0 : ¬ D.length = 0 := fun k => by have := HDz.out.1 k; omega
          have hD1 : ((D.length : Int) == 0) = false := by rw [beq_eq_false_iff_ne]; omega
          have HRF : Hid (frs D = RF) := by
            show _ = _
            have hne : DD ≠ [] := fun k => hF0 (by have := congrArg List.length HEf.out; rw [its_len, k] at this; simpa using this)
            have hie : DD.isEmpty = false := by
              cases DD with
              | nil => exact absurd rfl hne
              | cons x t => rfl
            rw [HR1.out, hie]
            rw [if_neg (by decide), ← HEf.out]
            exact frs_map _ (by have := HDj.out; omega) HA.out
          clear hF0
          go_wp2
          go_ret
          exact ⟨⟨a, c, D, rfl, (HFx.out.low hs1).far HPk.out.nz HLt.out, HRF.out⟩, by rw [HR2.out]; exact ⟨_, _, _, _, _, HPk.out.owe false⟩, HGBr.out.trans (gb_set _ _ _ _)⟩
end Go.Proofs.YthfbpilfdfploaaGreat
namespace Go.Proofs.YthfbpilfdfploaaGreat
open Go.RowKit
open Wn (Wd)

/- what the document's Take answers -/
def RkR (a0 : Option Addr) (w w' : World) (e : Ending) (r : Wd × Bool × Int) : Prop :=
  ∃ ad cap, e = .returned (.tuple #[wdV r.1.low ad r.1.seen.length cap, .bool r.2.1, .int .i64 r.2.2]) ∧ WdAt w' ad cap r.1 ∧ (∀ p, ad = some p → (a0 = some p ∧ r.2.1 = false ∧ r.2.2 = 0) ∨ w.heap.size ≤ p.block) ∧ Gr w w'
theorem RkR.no {a0 : Option Addr} {w w' : World} (c : Int) (h : Gr w w') : RkR a0 w w' (.returned (.tuple #[wdV 0 none 0 0, .bool false, .int .i64 c])) (⟨0, []⟩, false, c) := ⟨none, 0, rfl, wd_zero _, (fun p e => by cases e), h⟩
set_option maxHeartbeats 8000000 in
set_option maxRecDepth 100000 in
theorem rtake_bad (W : Wd) (q : Int) (ad : Option Addr) (cap : Nat) (w : World) (h : WdAt w ad cap W) (hb : ¬ (Wn.may W = true ∧ 1 ≤ q ∧ q ≤ 1000000000)) :
    Calls Tryz.prog 35 #[wdV W.low ad W.seen.length cap, .int .i64 q] w fun e w' => RkR ad w w' e (⟨0, []⟩, false, 2) := by
  have HM : Hid (∀ w', Gr w w' → Calls Tryz.prog 56 #[wdV W.low ad W.seen.length cap] w' fun e w2 => e = .returned (.int .i64 (mayE W)) ∧ Gr w' w2) := fun w' g => rmay_any W ad cap w' (h.gr g)
  clear h
  generalize W.seen.length = n at *
  generalize W.low = low at *
  by_cases hm : Wn.may W = true
  · have e0 : mayE W = 0 := by unfold mayE; rw [if_pos hm]
    rw [e0] at HM
    by_cases h1 : q < 1
    · clear hb
      go_enter Tryz.func35, Tryz.ntmps35
      go_wp2_with fail
      refine (HM.out _ (by repeat(first|exact Gr.r _|refine Gr.a ?_|refine Gr.d ?_|refine Gr.t ?_ (by assumption)))).mono ?_
      rintro e w1 ⟨rfl, hg1⟩
      have G1 : Hid (Gr w w1) := (Gr.refl w).alloc.alloc.trans hg1
      obtain ⟨c0, c1, f0, f1, lt⟩ := (Bx2.new (w.alloc (.cells #[.int .i64 low, .slice ad n cap] 56)) (.int .i64 0) (.slice none 0 0) 56 (w.heap.size + 1) (by simp)).gr hg1
      clear hg1
      go_wp2
      exact bodyPost_ret (v := .tuple #[wdV 0 none 0 0, .bool false, .int .i64 2]) (by simp [results, Tryz.results35, go_sem, *]) rfl (RkR.no 2 (gr_set2 G1.out _ (by omega) _ _))
    · have h2 : 1000000000 < q := by
        rcases Int.lt_or_le 1000000000 q with c | c
        · exact c
        · exact absurd ⟨hm, by omega, c⟩ hb
      clear hb
      go_enter Tryz.func35, Tryz.ntmps35
      go_wp2_with fail
      refine (HM.out _ (by repeat(first|exact Gr.r _|refine Gr.a ?_|refine Gr.d ?_|refine Gr.t ?_ (by assumption)))).mono ?_
      rintro e w1 ⟨rfl, hg1⟩
      have G1 : Hid (Gr w w1) := (Gr.refl w).alloc.alloc.trans hg1
      obtain ⟨c0, c1, f0, f1, lt⟩ := (Bx2.new (w.alloc (.cells #[.int .i64 low, .slice ad n cap] 56)) (.int .i64 0) (.slice none 0 0) 56 (w.heap.size + 1) (by simp)).gr hg1
      clear hg1
      go_wp2
      exact bodyPost_ret (v := .tuple #[wdV 0 none 0 0, .bool false, .int .i64 2]) (by simp [results, Tryz.results35, go_sem, *]) rfl (RkR.no 2 (gr_set2 G1.out _ (by omega) _ _))
  · have e0 : mayE W = 2 := by unfold mayE; rw [if_neg hm]
    rw [e0] at HM
    clear hb hm e0
    go_enter Tryz.func35, Tryz.ntmps35
    go_wp2_with fail
    refine (HM.out _ (by repeat(first|exact Gr.r _|refine Gr.a ?_|refine Gr.d ?_|refine Gr.t ?_ (by assumption)))).mono ?_
    rintro e w1 ⟨rfl, hg1⟩
    have G1 : Hid (Gr w w1) := (Gr.refl w).alloc.alloc.trans hg1
    obtain ⟨c0, c1, f0, f1, lt⟩ := (Bx2.new (w.alloc (.cells #[.int .i64 low, .slice ad n cap] 56)) (.int .i64 0) (.slice none 0 0) 56 (w.heap.size + 1) (by simp)).gr hg1
    clear hg1
    go_wp2
    exact bodyPost_ret (v := .tuple #[wdV 0 none 0 0, .bool false, .int .i64 2]) (by simp [results, Tryz.results35, go_sem, *]) rfl (RkR.no 2 (gr_set2 G1.out _ (by omega) _ _))
set_option maxHeartbeats 8000000 in
set_option maxRecDepth 100000 in
theorem rtake_far (W : Wd) (q : Int) (ad : Option Addr) (cap : Nat) (w : World) (h : WdAt w ad cap W) (hm : Wn.may W = true) (h1 : 1 ≤ q) (h2 : q ≤ 1000000000) (hf : W.low + 16 < q) :
    Calls Tryz.prog 35 #[wdV W.low ad W.seen.length cap, .int .i64 q] w fun e w' => RkR ad w w' e (⟨0, []⟩, false, 180) := by
  have HM : Hid (∀ w', Gr w w' → Calls Tryz.prog 56 #[wdV W.low ad W.seen.length cap] w' fun e w2 => e = .returned (.int .i64 (mayE W)) ∧ Gr w' w2) := fun w' g => rmay_any W ad cap w' (h.gr g)
  have hlo := ((Wn.may_iff W).1 hm).1
  have e0 : mayE W = 0 := by unfold mayE; rw [if_pos hm]
  rw [e0] at HM
  clear h hm e0
  generalize W.seen.length = n at *
  generalize W.low = low at *
  go_enter Tryz.func35, Tryz.ntmps35
  go_wp2_with fail
  refine (HM.out _ (by repeat(first|exact Gr.r _|refine Gr.a ?_|refine Gr.d ?_|refine Gr.t ?_ (by assumption)))).mono ?_
  rintro e w1 ⟨rfl, hg1⟩
  have G1 : Hid (Gr w w1) := (Gr.refl w).alloc.alloc.trans hg1
  obtain ⟨c0, c1, f0, f1, lt⟩ := (Bx2.new (w.alloc (.cells #[.int .i64 low, .slice ad n cap] 56)) (.int .i64 0) (.slice none 0 0) 56 (w.heap.size + 1) (by simp)).gr hg1
  obtain ⟨d0, d1, g0, g1, dt⟩ := ((Bx2.new w (.int .i64 low) (.slice ad n cap) 56 w.heap.size rfl).gr (Gr.refl _).alloc).gr hg1
  clear hg1
  go_wp2
  exact bodyPost_ret (v := .tuple #[wdV 0 none 0 0, .bool false, .int .i64 180]) (by simp [results, Tryz.results35, go_sem, *]) rfl (RkR.no 180 (gr_set2 G1.out _ (by omega) _ _))
set_option maxHeartbeats 8000000 in
set_option maxRecDepth 100000 in
theorem rtake_had (W : Wd) (q : Int) (ad : Option Addr) (cap : Nat) (w : World) (h : WdAt w ad cap W) (hm : Wn.may W = true) (h1 : 1 ≤ q) (h2 : q ≤ 1000000000) (hf : ¬ (W.low + 16 < q)) (hh : Wn.has W q = true) :
    Calls Tryz.prog 35 #[wdV W.low ad W.seen.length cap, .int .i64 q] w fun e w' => RkR ad w w' e (W, false, 0) := by
  have HM : Hid (∀ w', Gr w w' → Calls Tryz.prog 56 #[wdV W.low ad W.seen.length cap] w' fun e w2 => e = .returned (.int .i64 (mayE W)) ∧ Gr w' w2) := fun w' g => rmay_any W ad cap w' (h.gr g)
  have HH : Hid (∀ w', Gr w w' → Calls Tryz.prog 57 #[wdV W.low ad W.seen.length cap, .int .i64 q] w' fun e w2 => e = .returned (.bool (Wn.has W q)) ∧ Gr w' w2) := fun w' g => rhas_any W q ad cap w' (h.gr g)
  have hlo := ((Wn.may_iff W).1 hm).1
  have e0 : mayE W = 0 := by unfold mayE; rw [if_pos hm]
  rw [e0] at HM
  rw [hh] at HH
  have HW := Lib.hid h
  clear h hm e0 hh
  have HE : Hid (∀ w', Gr w w' → RkR ad w w' (.returned (.tuple #[wdV W.low ad W.seen.length cap, .bool false, .int .i64 0])) (W, false, 0)) := fun w' g => ⟨ad, cap, rfl, HW.out.gr g, fun p e => Or.inl ⟨e, rfl, rfl⟩, g⟩
  clear HW
  generalize W.seen.length = n at *
  generalize W.low = low at *
  go_enter Tryz.func35, Tryz.ntmps35
  go_wp2_with fail
  refine (HM.out _ (by repeat(first|exact Gr.r _|refine Gr.a ?_|refine Gr.d ?_|refine Gr.t ?_ (by assumption)))).mono ?_
  rintro e w1 ⟨rfl, hg1⟩
  have G1 : Hid (Gr w w1) := (Gr.refl w).alloc.alloc.trans hg1
  have B1 := Lib.hid ((Bx2.new (w.alloc (.cells #[.int .i64 low, .slice ad n cap] 56)) (.int .i64 0) (.slice none 0 0) 56 (w.heap.size + 1) (by simp)).gr hg1)
  have A1 := Lib.hid (((Bx2.new w (.int .i64 low) (.slice ad n cap) 56 w.heap.size rfl).gr (Gr.refl _).alloc).gr hg1)
  obtain ⟨d0, d1, _, _, _⟩ := A1.out
  clear hg1 HM
  go_wp2_with fail
  refine (HH.out _ G1.out).mono ?_
  rintro e w2 ⟨rfl, hg2⟩
  have G2 := Lib.hid (G1.out.trans hg2)
  obtain ⟨c0, c1, f0, f1, lt⟩ := B1.out.gr hg2
  obtain ⟨k0, k1, _, _, _⟩ := A1.out.gr hg2
  clear d0 d1 hg2 HH
  go_wp2
  exact bodyPost_ret (v := .tuple #[wdV low ad n cap, .bool false, .int .i64 0]) (by simp [results, Tryz.results35, go_sem, *]) rfl (HE.out _ (gr_set2 G2.out _ (by omega) _ _))
end Go.Proofs.YthfbpilfdfploaaGreat
namespace Go.Proofs.YthfbpilfdfploaaGreat
open Go.RowKit
open Wn (Wd)

def cellI : Option Value → Int
  | some (.int _ n) => n
  | _ => 0
theorem Bx2.heap {w w' : World} {g : Nat} {a b : Value} (h : Bx2 w g a b) (e : w'.heap[g]? = w.heap[g]?) (hs : w.heap.size ≤ w'.heap.size) : Bx2 w' g a b :=
  ⟨(World.cell?_of_block (a := ⟨g, 0, none⟩) e).trans h.c0, (World.cell?_of_block (a := ⟨g, 1, none⟩) e).trans h.c1, (World.frozen?_of_block (a := ⟨g, 0, none⟩) e).trans h.f0, (World.frozen?_of_block (a := ⟨g, 1, none⟩) e).trans h.f1, Nat.lt_of_lt_of_le h.lt hs⟩
theorem Bx2.grown {w w' : World} {g : Nat} {a b : Value} {r : Option Nat} (h : Bx2 w g a b) (k : w.grownBy w' r) (hr : ∀ x, r = some x → x ≠ g) : Bx2 w' g a b :=
  h.heap (k.block g h.lt (fun e => hr g e.symm rfl)) k.size
theorem Bx2.set1 {w : World} {g : Nat} {a b : Value} (h : Bx2 w g a b) (x : Value) : Bx2 (w.setCell ⟨g, 1, none⟩ x) g a x := by
  obtain ⟨h0, h1, f0, f1, hl⟩ := h
  exact ⟨by simp [go_sem, *], by simp [go_sem, *], by simp [go_sem, *], by simp [go_sem, *], by simpa using hl⟩
theorem row_set {w : World} {base : Nat} {e : TypeId} {size n : Nat} {v : Value} {xs : List Value} (h : w.ownsRow base e size v n xs) (p : Addr) (u : Value) (hp : p.block < base) : (w.setCell p u).ownsRow base e size v n xs :=
  row_keep h (fun g hg => Below.heap_setCell w p u g (fun e => by have := (h.lt g hg).1; omega))
theorem filt_in (f : Int → Bool) (a : Int) : [a].filter f = if f a = true then [a] else [] := by cases h : f a <;> simp [h]
/- the loop goes on -/
theorem up_go (h : Int → Bool) (k : Nat) (hk : k ≤ 16) (l : Int) (c : h (l + 1) = true) : Wn.up h (17 - k) l = Wn.up h (17 - (k + 1)) (l + 1) := by
  rw [show 17 - k = (17 - (k + 1)) + 1 by omega]
  show (if h (l + 1) = true then _ else _) = _
  rw [if_pos c]
theorem up_stop (h : Int → Bool) (k : Nat) (hk : k ≤ 16) (l : Int) (c : h (l + 1) = false) : Wn.up h (17 - k) l = l := by
  rw [show 17 - k = (17 - (k + 1)) + 1 by omega]
  show (if h (l + 1) = true then _ else _) = _
  rw [if_neg (by rw [c]; simp)]
/- what comes behind the first loop -/
set_option maxHeartbeats 16000000 in
set_option maxRecDepth 100000 in
theorem rtake_new (W : Wd) (q : Int) (ad : Option Addr) (cap : Nat) (w : World) (h : WdAt w ad cap W) (hm : Wn.may W = true) (h1 : 1 ≤ q) (h2 : q ≤ 1000000000) (hf : ¬ (W.low + 16 < q)) (hh : Wn.has W q = false) :
    Calls Tryz.prog 35 #[wdV W.low ad W.seen.length cap, .int .i64 q] w fun e w' => RkR ad w w' e (Wn.more W q, true, 0) := by
  have HM : Hid (∀ w', Gr w w' → Calls Tryz.prog 56 #[wdV W.low ad W.seen.length cap] w' fun e w2 => e = .returned (.int .i64 (mayE W)) ∧ Gr w' w2) := fun w' g => rmay_any W ad cap w' (h.gr g)
  have HH : Hid (∀ w' n, Gr w w' → Calls Tryz.prog 57 #[wdV W.low ad W.seen.length cap, .int .i64 n] w' fun e w2 => e = .returned (.bool (Wn.has W n)) ∧ Gr w' w2) := fun w' n g => rhas_any W n ad cap w' (h.gr g)
  have HH0 := Lib.hid (fun w' g => HH.out w' q g)
  rw [hh] at HH0
  have hlo := ((Wn.may_iff W).1 hm).1
  have e0 : mayE W = 0 := by unfold mayE; rw [if_pos hm]
  rw [e0] at HM
  have HU : Hid (∀ n, (Wn.has W n || decide (n = q)) = true → n ≤ W.low + 16) := fun n hn => by
    rcases Bool.or_eq_true _ _ ▸ hn with hx | hx
    · exact (Wn.has_le hm hx).2
    · have := of_decide_eq_true hx; omega
  have HMo : Hid (Wn.more W q = ⟨Wn.up (fun n => Wn.has W n || decide (n = q)) 17 W.low, (Wn.rng (Wn.up (fun n => Wn.has W n || decide (n = q)) 17 W.low + 1) (W.low + 16)).filter (fun n => Wn.has W n || decide (n = q))⟩) := rfl
  obtain ⟨i0, hi0, hz0, hz1, hz2⟩ := info_parts infoN
  clear h hm e0 hh
  generalize Wn.more W q = M at *
  obtain ⟨low, l⟩ := W
  simp only at *
  generalize l.length = n at *
  go_enter Tryz.func35, Tryz.ntmps35
  go_wp2_with fail
  refine (HM.out _ (by repeat(first|exact Gr.r _|refine Gr.a ?_|refine Gr.d ?_|refine Gr.t ?_ (by assumption)))).mono ?_
  rintro e w1 ⟨rfl, hg1⟩
  have G1 : Hid (Gr w w1) := (Gr.refl w).alloc.alloc.trans hg1
  have B1 := Lib.hid ((Bx2.new (w.alloc (.cells #[.int .i64 low, .slice ad n cap] 56)) (.int .i64 0) (.slice none 0 0) 56 (w.heap.size + 1) (by simp)).gr hg1)
  have A1 := Lib.hid (((Bx2.new w (.int .i64 low) (.slice ad n cap) 56 w.heap.size rfl).gr (Gr.refl _).alloc).gr hg1)
  obtain ⟨d0, d1, _, _, _⟩ := A1.out
  clear hg1 HM
  go_wp2_with fail
  refine (HH0.out _ G1.out).mono ?_
  rintro e w2 ⟨rfl, hg2⟩
  have G2 := Lib.hid (G1.out.trans hg2)
  have B2 := Lib.hid (B1.out.gr hg2)
  have A2 := Lib.hid (A1.out.gr hg2)
  obtain ⟨d0, d1, _, _, _⟩ := A2.out
  have hl2 := B2.out.lt
  clear hg2 HH0 B1 A1 G1
  go_wp2
  go_loopw [] (fun wr => ∃ k : Nat, k ≤ 16 ∧ Bx2 wr w2.heap.size (.int .i64 (low + k)) (.slice none 0 0) ∧ Gr w2 wr ∧ Wn.up (fun n => Wn.has ⟨low, l⟩ n || decide (n = q)) 17 low = Wn.up (fun n => Wn.has ⟨low, l⟩ n || decide (n = q)) (17 - k) (low + k)) (fun wr => (low + 17 - cellI (wr.cell? ⟨w2.heap.size, 0, none⟩)).toNat)
  case atStart => exact ⟨0, by omega, by simpa using Bx2.new w2 (.int .i64 low) (.slice none 0 0) 56 _ rfl, (Gr.refl _).alloc, by simp⟩
  case round =>
    obtain ⟨k, hk, hb, hg, hu⟩ := hrel
    have B := Lib.hid hb
    have G := Lib.hid hg
    have U := Lib.hid hu
    obtain ⟨c0, c1, f0, f1, hl3⟩ := hb
    obtain ⟨k0, k1, _, _, _⟩ := A2.out.gr hg
    have hmc : Hid (cellI (wr.cell? ⟨w2.heap.size, 0, none⟩) = low + k) := by show _ = _; rw [c0]; rfl
    have HH1 := Lib.hid (HH.out wr (low + k + 1) (G2.out.trans hg))
    clear hg hu
    have hkn : Hid (low + (k : Int) + 1 = low + ((k + 1 : Nat) : Int)) := by show _ = _; omega
    cases hx : Wn.has ⟨low, l⟩ (low + k + 1) with
    | true =>
      have hb16 := HU.out (low + k + 1) (by rw [hx]; rfl)
      have HN : Hid (Wn.up (fun n => Wn.has ⟨low, l⟩ n || decide (n = q)) 17 low = Wn.up (fun n => Wn.has ⟨low, l⟩ n || decide (n = q)) (17 - (k + 1)) (low + ((k + 1 : Nat) : Int))) := by
        show _ = _
        rw [U.out, up_go _ k hk _ (by simp only [hx]; rfl), hkn.out]
      rw [hx] at HH1
      clear hx d0 d1
      go_wp2_with fail
      refine HH1.out.mono ?_
      rintro e w3 ⟨rfl, hg3⟩
      have G3 := Lib.hid (G.out.trans hg3)
      have B3 := Lib.hid (B.out.gr hg3)
      obtain ⟨c0, c1, f0, f1, hl3⟩ := B3.out
      have HB3 := Lib.hid (B3.out.set0 (.int .i64 (low + k + 1)))
      rw [hkn.out] at HB3
      clear hg3 B
      go_wp2
      go_roundw
      case rel => exact ⟨k + 1, by omega, by rw [hkn.out]; exact HB3.out, G3.out.set _ (by simp) _, HN.out⟩
      case measure => rw [hmc.out]; simp [go_sem, *, cellI]; omega
    | false =>
      rw [hx] at HH1
      by_cases hq : low + k + 1 = q
      · have hb16 := HU.out (low + k + 1) (by rw [hx, decide_eq_true hq]; rfl)
        have HN : Hid (Wn.up (fun n => Wn.has ⟨low, l⟩ n || decide (n = q)) 17 low = Wn.up (fun n => Wn.has ⟨low, l⟩ n || decide (n = q)) (17 - (k + 1)) (low + ((k + 1 : Nat) : Int))) := by
          show _ = _
          rw [U.out, up_go _ k hk _ (by simp only [hx]; rw [decide_eq_true hq]; rfl), hkn.out]
        clear hx d0 d1
        have hqb : (low + (k : Int) + 1 == q) = true := by rw [beq_iff_eq]; exact hq
        clear hq
        go_wp2_with fail
        refine HH1.out.mono ?_
        rintro e w3 ⟨rfl, hg3⟩
        have G3 := Lib.hid (G.out.trans hg3)
        have B3 := Lib.hid (B.out.gr hg3)
        obtain ⟨c0, c1, f0, f1, hl3⟩ := B3.out
        have HB3 := Lib.hid (B3.out.set0 (.int .i64 (low + k + 1)))
        rw [hkn.out] at HB3
        clear hg3 B
        go_wp2
        go_roundw
        case rel => exact ⟨k + 1, by omega, by rw [hkn.out]; exact HB3.out, G3.out.set _ (by simp) _, HN.out⟩
        case measure => rw [hmc.out]; simp [go_sem, *, cellI]; omega
      · have HL : Hid (M = ⟨low + k, (Wn.rng (low + k + 1) (low + 16)).filter (fun n => Wn.has ⟨low, l⟩ n || decide (n = q))⟩) := by
          show _ = _
          rw [HMo.out, U.out, up_stop _ k hk _ (by simp only [hx]; rw [decide_eq_false hq]; rfl)]
        clear hx d0 d1 U HMo
        have hqb : (low + (k : Int) + 1 == q) = false := by rw [beq_eq_false_iff_ne]; exact hq
        clear hq
        go_wp2_with fail
        refine HH1.out.mono ?_
        rintro e w3 ⟨rfl, hg3⟩
        have G3 := Lib.hid (G.out.trans hg3)
        have B3 := Lib.hid (B.out.gr hg3)
        obtain ⟨c0, c1, f0, f1, hl3⟩ := B3.out
        clear hg3 B HH1 G
        generalize hX : low + (k : Int) = x at *
        have hx0 : low ≤ x ∧ x ≤ low + 16 := by omega
        clear hkn hmc
        go_wp2
        go_loopw [8] (fun t wr => ∃ (a : Int) (D : List Int) (v : Value), t = .int .i64 a ∧ x + 1 ≤ a ∧ a ≤ low + 17 ∧ D = (Wn.rng (x + 1) (a - 1)).filter (fun n => Wn.has ⟨low, l⟩ n || decide (n = q)) ∧ Bx2 wr w2.heap.size (.int .i64 x) v ∧ wr.ownsRow (w2.heap.size + 1) 3 1 v D.length (intV D) ∧ Gr w2 wr) (fun t _ => (low + 17 - intOf t).toNat)
        case atStart => exact ⟨x + 1, [], .slice none 0 0, rfl, by omega, by omega, by rw [Wn.rng_none (by omega)]; rfl, B3.out, World.ownsRow_nil _ _ _ _, G3.out⟩
        case round =>
          obtain ⟨a, D, v, rfl, ha0, ha1, heq, hb, hown, hg⟩ := hrel
          have HG := Lib.hid hg
          have HB := Lib.hid hb
          have HO := Lib.hid hown
          obtain ⟨c0, c1, f0, f1, hl4⟩ := hb
          obtain ⟨k0, k1, _, _, _⟩ := A2.out.gr hg
          by_cases hlt : a ≤ low + 16
          · have hDl : D.length ≤ 17 := by
              rw [heq]
              have h1 := List.length_filter_le (fun n => Wn.has ⟨low, l⟩ n || decide (n = q)) (Wn.rng (x + 1) (a - 1))
              have h2 := Wn.len_rng (x + 1) (a - 1)
              omega
            have HS := Lib.hid (show (Wn.rng (x + 1) (a + 1 - 1)).filter (fun n => Wn.has ⟨low, l⟩ n || decide (n = q)) = D ++ (if (Wn.has ⟨low, l⟩ a || decide (a = q)) = true then [a] else []) by
              rw [heq, show a + 1 - 1 = a by omega, Wn.rng_snoc (show x + 1 ≤ a by omega), List.filter_append, filt_in (fun n => Wn.has ⟨low, l⟩ n || decide (n = q)) a])
            have HH2 := Lib.hid (HH.out wr a (G2.out.trans hg))
            have hm1 : D.length + 1 ≤ maxLen := by unfold maxLen; omega
            obtain ⟨va, vc, rfl⟩ := own_slice hown
            have hs4 : w2.heap.size + 1 ≤ wr.heap.size := by omega
            clear heq hg hown
            by_cases hin : (Wn.has ⟨low, l⟩ a || decide (a = q)) = true
            · rw [if_pos hin] at HS
              have HE2 := Lib.hid (intV_snoc D a)
              have hsp : Wn.has ⟨low, l⟩ a = true ∨ (Wn.has ⟨low, l⟩ a = false ∧ (a == q) = true) := by
                cases hx : Wn.has ⟨low, l⟩ a with
                | true => exact Or.inl rfl
                | false => rw [hx, Bool.false_or] at hin; exact Or.inr ⟨rfl, by rw [beq_iff_eq]; exact of_decide_eq_true hin⟩
              clear hin
              have fin : ∀ w5 : World, Gr wr w5 → ∀ (v' : Value) (w6 : World), w6.ownsRow (w2.heap.size + 1) 3 1 v' (D.length + 1) (intV D ++ [.int .i64 a]) → (w5.alloc (.cells #[.int .i64 a] 3)).grownBy w6 (Value.slice va D.length vc).ownBlock →
                  Bx2 w6 w2.heap.size (.int .i64 x) (.slice va D.length vc) ∧ Bx2 (w6.setCell ⟨w2.heap.size, 1, none⟩ v') w2.heap.size (.int .i64 x) v' ∧ (w6.setCell ⟨w2.heap.size, 1, none⟩ v').ownsRow (w2.heap.size + 1) 3 1 v' (D ++ [a]).length (intV (D ++ [a])) ∧ Gr w2 (w6.setCell ⟨w2.heap.size, 1, none⟩ v') := fun w5 g5 v' w6 ho6 hgr6 => by
                have hlt6 : ∀ y, (Value.slice va D.length vc).ownBlock = some y → w2.heap.size + 1 ≤ y := fun y hy => (HO.out.lt y hy).1
                have hb6 := (HB.out.gr (g5.alloc)).grown hgr6 (fun y hy => by have := hlt6 y hy; omega)
                refine ⟨hb6, hb6.set1 v', ?_, ?_⟩
                · rw [HE2.out, List.length_append]; exact row_set ho6 _ _ (by show w2.heap.size < _; omega)
                · exact ((HG.out.trans g5).alloc.grown hgr6 (fun y hy => by have := hlt6 y hy; omega)).set _ (by simp) _
              have FIN := Lib.hid fin
              clear fin
              rcases hsp with hx | ⟨hx, hqe⟩
              · rw [hx] at HH2
                clear hx
                go_wp2_with fail
                refine HH2.out.mono ?_
                rintro e w5 ⟨rfl, hg5⟩
                have G5 := Lib.hid hg5
                obtain ⟨c0, c1, f0, f1, hl5⟩ := HB.out.gr hg5
                have hown := row_gr HO.out hg5
                have hs5 := hg5.size
                clear hg5
                go_wp2_with (first
                  | (at_builtin; refine wpList_append_own _ rfl _ _ 54 rfl (w2.heap.size + 1) 3 i0 (.int .i64 0) 1 8 Tryz.underlying54 hi0 hz0 hz1 hz2 rfl (by decide) _ _ _ rfl (hown.alloc _) ⟨w5.heap.size, 0, none⟩ 1 1 [.int .i64 a] rfl rfl (cell_one _ _ _) (by intro u hu; simp at hu; subst hu; rfl) hm1 (by omega) (by simp; omega) ?_)
                  | fail)
                intro v' w6 hown' hgrow _
                obtain ⟨va', vc', rfl⟩ := own_slice hown'
                obtain ⟨q1, q2, q3, q4⟩ := FIN.out w5 G5.out _ w6 hown' hgrow
                have Q2 := Lib.hid q2
                have Q3 := Lib.hid q3
                have Q4 := Lib.hid q4
                obtain ⟨c0, c1, f0, f1, hl6⟩ := q1
                clear hown' hgrow hown q2 q3 q4
                go_wp2
                go_roundw
                case rel => exact ⟨a + 1, D ++ [a], _, by go_num, by omega, by omega, HS.out.symm, Q2.out, Q3.out, Q4.out⟩
                case measure => simp [intOf]; omega
              · rw [hx] at HH2
                clear hx
                go_wp2_with fail
                refine HH2.out.mono ?_
                rintro e w5 ⟨rfl, hg5⟩
                have G5 := Lib.hid hg5
                obtain ⟨c0, c1, f0, f1, hl5⟩ := HB.out.gr hg5
                have hown := row_gr HO.out hg5
                have hs5 := hg5.size
                clear hg5
                go_wp2_with (first
                  | (at_builtin; refine wpList_append_own _ rfl _ _ 54 rfl (w2.heap.size + 1) 3 i0 (.int .i64 0) 1 8 Tryz.underlying54 hi0 hz0 hz1 hz2 rfl (by decide) _ _ _ rfl (hown.alloc _) ⟨w5.heap.size, 0, none⟩ 1 1 [.int .i64 a] rfl rfl (cell_one _ _ _) (by intro u hu; simp at hu; subst hu; rfl) hm1 (by omega) (by simp; omega) ?_)
                  | fail)
                intro v' w6 hown' hgrow _
                obtain ⟨va', vc', rfl⟩ := own_slice hown'
                obtain ⟨q1, q2, q3, q4⟩ := FIN.out w5 G5.out _ w6 hown' hgrow
                have Q2 := Lib.hid q2
                have Q3 := Lib.hid q3
                have Q4 := Lib.hid q4
                obtain ⟨c0, c1, f0, f1, hl6⟩ := q1
                clear hown' hgrow hown q2 q3 q4
                go_wp2
                go_roundw
                case rel => exact ⟨a + 1, D ++ [a], _, by go_num, by omega, by omega, HS.out.symm, Q2.out, Q3.out, Q4.out⟩
                case measure => simp [intOf]; omega
            · rw [if_neg hin, List.append_nil] at HS
              have hx : Wn.has ⟨low, l⟩ a = false := by
                cases hx : Wn.has ⟨low, l⟩ a with
                | true => exact absurd (by rw [hx]; rfl) hin
                | false => rfl
              have hqe : (a == q) = false := by
                rw [beq_eq_false_iff_ne]
                intro e
                exact hin (by rw [decide_eq_true e, Bool.or_true])
              rw [hx] at HH2
              clear hx hin
              go_wp2_with fail
              refine HH2.out.mono ?_
              rintro e w5 ⟨rfl, hg5⟩
              have G5 := Lib.hid (HG.out.trans hg5)
              have B5 := Lib.hid (HB.out.gr hg5)
              have O5 := Lib.hid (row_gr HO.out hg5)
              clear hg5
              go_wp2
              go_roundw
              case rel => exact ⟨a + 1, D, .slice va D.length vc, by go_num, by omega, by omega, HS.out.symm, B5.out, O5.out, G5.out⟩
              case measure => simp [intOf]; omega
          · have hax : a = low + 17 := by omega
            have hMl : M = ⟨x, D⟩ := by rw [HL.out, heq, hax, show low + 17 - 1 = low + 16 by omega]
            obtain ⟨ad2, cap2, rfl, hcp, hia, hno, hbk⟩ := own_intsN hown
            obtain ⟨b0, b1, s0, s1, bl⟩ := B2.out.gr hg
            have HI := Lib.hid hia
            have HK := Lib.hid hbk
            have hDl : D.length ≤ 9223372036854775807 := by
              rw [heq]
              have h1 := List.length_filter_le (fun n => Wn.has ⟨low, l⟩ n || decide (n = q)) (Wn.rng (x + 1) (a - 1))
              have h2 := Wn.len_rng (x + 1) (a - 1)
              omega
            have HN := Lib.hid hno
            have HM9 := Lib.hid hMl
            clear hMl
            clear hown hg heq hia hax hbk hno
            go_wp2
            exact bodyPost_ret (v := .tuple #[wdV x ad2 D.length cap2, .bool true, .int .i64 0]) (by simp [results, Tryz.results35, go_sem, *]) rfl
              (by rw [HM9.out]; exact ⟨ad2, cap2, rfl, ⟨(HI.out.set _ _ (fun p e => by have := (HK.out p e).1; simp; omega)).set _ _ (fun p e => by have := (HK.out p e).1; simp; omega), hcp, hDl, HN.out, by simp only; omega, by simp only; omega⟩, (fun p e => Or.inr (by have := (HK.out p e).1; omega)), gr_set2 (G2.out.trans HG.out) _ (by omega) _ _⟩)
/- the document's Take, whatever it is given -/
theorem rtake_any (W : Wd) (q : Int) (ad : Option Addr) (cap : Nat) (w : World) (h : WdAt w ad cap W) :
    Calls Tryz.prog 35 #[wdV W.low ad W.seen.length cap, .int .i64 q] w fun e w' => RkR ad w w' e (Wn.take W q) := by
  unfold Wn.take
  by_cases c : Wn.may W = true ∧ 1 ≤ q ∧ q ≤ 1000000000
  · rw [if_pos c]
    by_cases f : W.low + 16 < q
    · rw [if_pos f]; exact rtake_far W q ad cap w h c.1 c.2.1 c.2.2 f
    · rw [if_neg f]
      by_cases t : Wn.has W q = true
      · rw [if_pos t]; exact rtake_had W q ad cap w h c.1 c.2.1 c.2.2 f t
      · rw [if_neg t]; exact rtake_new W q ad cap w h c.1 c.2.1 c.2.2 f (by simpa using t)
  · rw [if_neg c]; exact rtake_bad W q ad cap w h c
end Go.Proofs.YthfbpilfdfploaaGreat
