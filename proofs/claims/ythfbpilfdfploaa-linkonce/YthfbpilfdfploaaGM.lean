/- Parts of these proofs, laid together. -/
import Derived.Test.YthfbpilfdfploaaGL
namespace Go.Proofs.Ythfbpilfdfploaa
open Go.RowKit
open Lk (St)

variable {Z : Nat → Prop}
theorem fr_small {f : Fm} (h : Nt.frB f = true) : f.n.L.length ≤ 4 ∧ f.n.d.size ≤ 16 := by
  obtain ⟨_, _, _, _, _, _, _, hf⟩ := Nt.may_frame h
  by_cases hs : f.s = 0
  · unfold Nt.fnB at hf
    rw [if_pos hs] at hf
    rw [Nt.em_zero hf]
    exact ⟨by simp [Nt.zeroN], by decide⟩
  · exact nt_small (Nt.fn_note hf hs).1
theorem rf_no {l : St Nx} {f : Lk.Fr Nx} {now : Int} (h : rfE l f now ≠ 0) : Lk.takeR CX l f now = (rfE l f now, false, l) := by
  unfold rfE at h ⊢
  unfold Lk.takeR
  by_cases h1 : CX.fm f = true ∧ f.f = l.wi ∧ f.t = l.me
  · rw [if_pos h1] at h ⊢
    rw [if_pos h1]
    by_cases h2 : Ox.tmB now = true
    · rw [if_pos h2] at h ⊢
      rw [if_pos h2]
      by_cases h3 : f.e < l.kn
      · rw [if_pos h3, if_pos h3]
      · rw [if_neg h3] at h; exact absurd rfl h
    · rw [if_neg h2, if_neg h2]
  · rw [if_neg h1, if_neg h1]
theorem rf_yes {l : St Nx} {f : Lk.Fr Nx} {now : Int} (h : rfE l f now = 0) : (CX.fm f = true ∧ f.f = l.wi ∧ f.t = l.me) ∧ l.kn ≤ f.e ∧ Lk.takeR CX l f now = if f.a = l.ep then (if f.s = 0 then (0, false, Lk.hit CX (Lk.learn CX l f.e now) f.c) else Lk.lay (Lk.hit CX (Lk.learn CX l f.e now) f.c) f.s) else (200, false, { Lk.learn CX l f.e now with ow := true }) := by
  unfold rfE at h
  by_cases h1 : CX.fm f = true ∧ f.f = l.wi ∧ f.t = l.me
  · rw [if_pos h1] at h
    by_cases h2 : Ox.tmB now = true
    · rw [if_pos h2] at h
      by_cases h3 : f.e < l.kn
      · rw [if_pos h3] at h; omega
      · exact ⟨h1, by omega, Lk.take_looks CX l f now h1 h2 (by omega)⟩
    · rw [if_neg h2] at h; omega
  · rw [if_neg h1] at h; omega
theorem learn_ep (l : St Nx) (e now : Int) : (Lk.learn CX l e now).ep = l.ep := by unfold Lk.learn; split <;> rfl
theorem learn_same {l : St Nx} {e now : Int} (h : ¬ l.kn < e) : Lk.learn CX l e now = l := by unfold Lk.learn; rw [if_neg h]
set_option maxHeartbeats 32000000 in
set_option maxRecDepth 100000 in
theorem kTake_any (g : Nat) (l : St Nx) (x : Mf) (now : Int) (w : World) (h : PkAt Z w g l) (he : l.ep ≠ 0) (hF : Frs Z w) (hm : MnAt Z w x.m) :
    Calls Try.prog 6 #[.pointer (some ⟨g, 0, none⟩), x.v, .int .i64 now] w fun e w' => TnR Z g x.m.x (Lk.takeR CX l x.fr now) w e w' := by
  have hgl := h.lt
  have HZg : Hid (¬ Z g) := h.nz
  obtain ⟨Y, hY⟩ : ∃ Y, Y = Bt Z (w.heap.size + 1) := ⟨_, rfl⟩
  have HYn : Hid (¬ Y (w.heap.size + 1)) := by show ¬ _; rw [hY]; exact Bt.no
  have HYg : Hid (¬ Y g) := by show ¬ _; rw [hY]; exact fun k => HZg.out k.1
  have HYz : Hid (∀ b, Y b → Z b) := by show ∀ b, _; rw [hY]; exact fun b k => k.1
  have hkY : PkAt Y w g l := h.turn (fun b hb hz => by rw [hY]; exact ⟨hz, by omega⟩) HYg.out
  have hmY : MnAt Y w x.m := hm.turn (fun b hb hz => by rw [hY]; exact ⟨hz, by omega⟩)
  have HMd : Hid (∀ w', PkAt Y w' g l → Calls Try.prog 19 #[.pointer (some ⟨g, 0, none⟩)] w' fun e w2 => e = .returned (.bool true) ∧ w2 = w') := fun w' k => by
    obtain ⟨a, c, E, a2, c2, k⟩ := k
    have := made_any g l.ep w' (k.cs.at_ 2 _ rfl)
    rwa [decide_eq_false he] at this
  have HRf : Hid (∀ w', PkAt Y w' g l → MnAt Y w' x.m → Calls Try.prog 20 #[.pointer (some ⟨g, 0, none⟩), x.v, .int .i64 now] w' fun e w2 => e = .returned (.int .i64 (rfE l x.fr now)) ∧ Gr w' w2) := fun w' h1 h2 => kRefusal_any g l x now w' h1 h2
  have HBg : Hid (l.kn < x.e → ∀ w', PkAt Y w' g l → Frs Y w' → Calls Try.prog 21 #[.pointer (some ⟨g, 0, none⟩), .int .i64 x.e, .int .i64 now] w' fun e w2 => (∃ v, e = .returned v) ∧ PkAt Y w2 g (Lk.learn CX l x.e now) ∧ GB g w' w2) := fun hk w' h1 h2 => kBegin_any g l x.e now w' h1 h2 hk
  have HAn : Hid (∀ l1 w', Frs Y w' → PkAt Y w' g l1 → Calls Try.prog 22 #[.pointer (some ⟨g, 0, none⟩), .int .i64 x.c] w' fun e w2 => (∃ v, e = .returned v) ∧ PkAt Y w2 g (Lk.hit CX l1 x.c) ∧ GB g w' w2) := fun l1 w' h1 h2 => kAnswered_any g l1 x.c w' h2 h1
  have HTn0 : Hid (CX.fm x.fr = true → ∀ l1 w', PkAt Y w' g l1 → Frs Y w' → MnAt Y w' x.m → Calls Try.prog 23 #[.pointer (some ⟨g, 0, none⟩), .int .i64 x.s, x.m.v] w' fun e w2 => TnR Y g x.m.x (lay1 l1 x.s) w' e w2) := fun hfm l1 w' h1 h2 h3 => by
    have hsm := fr_small hfm
    have e1 : x.m.x.L.length ≤ 4 := hsm.1
    have e2 : x.m.x.d.size ≤ 16 := hsm.2
    exact kTakeNote_any g l1 x.s x.m w' h1 h2 h3 (by omega) (by omega)
  have HR0 : Hid (rfE l x.fr now ≠ 0 → Lk.takeR CX l x.fr now = (rfE l x.fr now, false, l)) := fun h => rf_no h
  have HR1 : Hid (rfE l x.fr now = 0 → CX.fm x.fr = true ∧ Lk.takeR CX l x.fr now = if x.a = (Lk.learn CX l x.e now).ep then (if x.s = 0 then (0, false, Lk.hit CX (Lk.learn CX l x.e now) x.c) else Lk.lay (Lk.hit CX (Lk.learn CX l x.e now) x.c) x.s) else (200, false, { Lk.learn CX l x.e now with ow := true })) := fun h => by
    obtain ⟨h1, _, h3⟩ := rf_yes h
    exact ⟨h1.1, by rw [learn_ep]; exact h3⟩
  have HLs : Hid (¬ l.kn < x.e → Lk.learn CX l x.e now = l) := fun h => learn_same h
  generalize Lk.takeR CX l x.fr now = TR at *
  generalize rfE l x.fr now = re at *
  generalize CX.fm x.fr = fmb at *
  have HF0 := Lib.hid hF
  clear h hF hm he
  obtain ⟨f, t, ep, s, ae, ac, ⟨⟨k0, r, n, L, d, y⟩, ad, cap⟩⟩ := x
  dsimp only [Mf.v, Mn.v] at *
  generalize hll : L.length = ll at *
  have HLl := Lib.hid hll
  have B0 := Cs.new w [.int .i64 f, .int .i64 t, .int .i64 ep, .int .i64 s, .int .i64 ae, .int .i64 ac, .int .i64 k0, .int .i64 r, .int .i64 n, .slice ad ll cap, .string d, .int .i64 y] 28 _ rfl
  have D0 := Cs.new (w.alloc (.cells #[.int .i64 f, .int .i64 t, .int .i64 ep, .int .i64 s, .int .i64 ae, .int .i64 ac, .int .i64 k0, .int .i64 r, .int .i64 n, .slice ad ll cap, .string d, .int .i64 y] 28)) [.int .i64 0, .int .i64 0, .int .i64 0, .slice none 0 0, .string ⟨#[]⟩, .int .i64 0] 26 (w.heap.size + 1) (by simp)
  obtain ⟨w1, hw1⟩ : ∃ W2, W2 = (w.alloc (.cells #[.int .i64 f, .int .i64 t, .int .i64 ep, .int .i64 s, .int .i64 ae, .int .i64 ac, .int .i64 k0, .int .i64 r, .int .i64 n, .slice ad ll cap, .string d, .int .i64 y] 28)).alloc (.cells #[.int .i64 0, .int .i64 0, .int .i64 0, .slice none 0 0, .string ⟨#[]⟩, .int .i64 0] 26) := ⟨_, rfl⟩
  have hg1 : Gr w w1 := by rw [hw1]; exact (Gr.refl _).alloc.alloc
  have HB1 : Hid (Cs w1 w.heap.size [.int .i64 f, .int .i64 t, .int .i64 ep, .int .i64 s, .int .i64 ae, .int .i64 ac, .int .i64 k0, .int .i64 r, .int .i64 n, .slice ad ll cap, .string d, .int .i64 y]) := by show Cs _ _ _; rw [hw1]; exact B0.alloc
  have HD1 : Hid (Cs w1 (w.heap.size + 1) [.int .i64 0, .int .i64 0, .int .i64 0, .slice none 0 0, .string ⟨#[]⟩, .int .i64 0]) := by show Cs _ _ _; rw [hw1]; exact D0
  have hs1 : w1.heap.size = w.heap.size + 2 := by rw [hw1]; simp
  have HK1 := Lib.hid (hkY.gr hg1)
  have HM1 := Lib.hid (hmY.gr hg1)
  have HG1 := Lib.hid (GB.ofGr (b := g) hg1)
  have HF1 : Hid (Frs Y w1) := by show Frs _ _; rw [hY]; exact Bt.frs HF0.out hg1.size (by omega)
  have b0 := HB1.out.at_ 0 _ rfl
  have b1 := HB1.out.at_ 1 _ rfl
  have b2 := HB1.out.at_ 2 _ rfl
  have b3 := HB1.out.at_ 3 _ rfl
  have b4 := HB1.out.at_ 4 _ rfl
  have b5 := HB1.out.at_ 5 _ rfl
  have b6 := HB1.out.at_ 6 _ rfl
  have b7 := HB1.out.at_ 7 _ rfl
  have b8 := HB1.out.at_ 8 _ rfl
  have b9 := HB1.out.at_ 9 _ rfl
  have b10 := HB1.out.at_ 10 _ rfl
  have b11 := HB1.out.at_ 11 _ rfl
  have bf0 := HB1.out.fz 0 (by simp)
  have bf1 := HB1.out.fz 1 (by simp)
  have bf2 := HB1.out.fz 2 (by simp)
  have bf3 := HB1.out.fz 3 (by simp)
  have bf4 := HB1.out.fz 4 (by simp)
  have bf5 := HB1.out.fz 5 (by simp)
  have bf6 := HB1.out.fz 6 (by simp)
  have bf7 := HB1.out.fz 7 (by simp)
  have bf8 := HB1.out.fz 8 (by simp)
  have bf9 := HB1.out.fz 9 (by simp)
  have bf10 := HB1.out.fz 10 (by simp)
  have bf11 := HB1.out.fz 11 (by simp)
  have blt := HB1.out.lt
  clear B0 D0 hg1 hkY hmY HF0 hY hs1 hll
  go_enter Try.func6, Try.ntmps6
  go_wp2_with fail
  rw [← hw1]
  refine (HMd.out _ HK1.out).mono ?_
  rintro e0 w0 ⟨rfl, hw0⟩; obtain rfl := hw0.symm
  clear hw1 HMd
  go_wp2_with fail
  refine (HRf.out _ HK1.out HM1.out).mono ?_
  rintro e0 w2 ⟨rfl, hg2⟩
  clear b0 b1 b2 b3 b4 b5 b6 b7 b8 b9 b10 b11 bf0 bf1 bf2 bf3 bf4 bf5 bf6 bf7 bf8 bf9 bf10 bf11 blt HRf
  have HK2 := Lib.hid (HK1.out.gr hg2)
  have HG2 := Lib.hid (HG1.out.gr hg2)
  have HB2 := Lib.hid (HB1.out.gr hg2)
  have HD2 := Lib.hid (HD1.out.gr hg2)
  have HF2 := Lib.hid (HF1.out.gr hg2)
  have HM2 := Lib.hid (HM1.out.gr hg2)
  clear hg2
  clear HK1 HG1 HB1 HD1 HF1 HM1
  by_cases qr : re = 0
  · have qrb : (re != 0) = false := by simp [qr]
    have HRy := Lib.hid (HR1.out qr)
    have HTn := Lib.hid (HTn0.out HRy.out.1)
    have HTR := Lib.hid HRy.out.2
    clear qr HR0 HR1 HRy HTn0
    have b2 := HB2.out.at_ 2 _ rfl
    have bl := HB2.out.lt
    obtain ⟨pa, pc, pE, pa2, pc2, hpk⟩ := HK2.out
    have p5 := hpk.cs.at_ 5 _ rfl
    have pl := hpk.cs.lt
    clear hpk
    by_cases qe : l.kn < ep
    · have HBg2 := Lib.hid (HBg.out qe)
      clear HBg HLs
      generalize Lk.learn CX l ep now = l1 at *
      go_wp2
      go_region
      all_goals
        obtain ⟨w3, hw3⟩ : ∃ x, x = World.drew w2 := ⟨_, rfl⟩
        rw [← hw3]
        have hg3 : Gr w2 w3 := by rw [hw3]; exact (Gr.refl _).drew
        have HK3 := Lib.hid (HK2.out.gr hg3)
        have HG3 := Lib.hid (HG2.out.gr hg3)
        have HB3 := Lib.hid (HB2.out.gr hg3)
        have HD3 := Lib.hid (HD2.out.gr hg3)
        have HF3 := Lib.hid (HF2.out.gr hg3)
        have HM3 := Lib.hid (HM2.out.gr hg3)
        clear hg3 hw3 b2 bl p5 pl
        clear HK2 HG2 HB2 HD2 HF2 HM2
        have b2 := HB3.out.at_ 2 _ rfl
        have bl := HB3.out.lt
        go_wp2_with fail
        refine (HBg2.out _ HK3.out HF3.out).mono ?_
        rintro e0 w4 ⟨⟨v, rfl⟩, hp4, hg4⟩
        have HK4 := Lib.hid hp4
        have HG4 := Lib.hid (HG3.out.trans hg4)
        have HB4 := Lib.hid (GB.cs hg4 HB3.out (by omega))
        have HD4 := Lib.hid (GB.cs hg4 HD3.out (by omega))
        have HF4 := Lib.hid (HF3.out.gb hg4)
        have HM4 := Lib.hid (HM3.out.gb hg4 HYg.out)
        clear hp4 hg4 b2 bl HBg2
        clear HK3 HG3 HB3 HD3 HF3 HM3
        have z4 := HB4.out.at_ 4 _ rfl
        have zl := HB4.out.lt
        obtain ⟨pa, pc, pE, pa2, pc2, hpk⟩ := HK4.out
        have p2 := hpk.cs.at_ 2 _ rfl
        have pl := hpk.cs.lt
        clear hpk
        by_cases qa : ae = l1.ep
        · have qb : (ae != l1.ep) = false := by simp [qa]
          have HTR2 : Hid (TR = if s = 0 then (0, false, Lk.hit CX l1 ac) else Lk.lay (Lk.hit CX l1 ac) s) := by show _ = _; rw [HTR.out, if_pos qa]
          clear qa HTR
          go_wp2
          go_region
          all_goals
            obtain ⟨w5, hw5⟩ : ∃ x, x = World.drew w4 := ⟨_, rfl⟩
            rw [← hw5]
            have hg5 : Gr w4 w5 := by rw [hw5]; exact (Gr.refl _).drew
            have HK5 := Lib.hid (HK4.out.gr hg5)
            have HG5 := Lib.hid (HG4.out.gr hg5)
            have HB5 := Lib.hid (HB4.out.gr hg5)
            have HD5 := Lib.hid (HD4.out.gr hg5)
            have HF5 := Lib.hid (HF4.out.gr hg5)
            have HM5 := Lib.hid (HM4.out.gr hg5)
            clear hg5 hw5 z4 zl p2 pl
            have z5 := HB5.out.at_ 5 _ rfl
            have zl := HB5.out.lt
            go_wp2_with fail
            refine wp_region_held_drew (S := (fun w' => w'.cell? ⟨w.heap.size, 5, none⟩ = some (.int .i64 ac))) (by kernel_rfl) (by first | with_reducible exact zc | exact Gr.keep (Gr.refl _).drew z5) (fun hHeld => ?_)
            refine ty 0 46 hHeld ?_
            refine ty 1 47 hHeld ?_
            refine ty 2 48 hHeld ?_
            refine ty 3 49 hHeld ?_
            refine ty 4 50 hHeld ?_
            refine wpAnyH_ready (rs := [5]) (by kernel_rfl) (by simp) (AllReadyH.cons rfl (fun K hK => ?_) AllReadyH.nil)
            go_simp
            (go_at_call 22; refine (HAn.out l1 _ (HF5.out.gr (Gr.refl _).drew) (HK5.out.gr (Gr.refl _).drew)).mono ?_; rintro e wn ⟨⟨v, rfl⟩, hpn, hgn⟩; have zc := hgn.keep (g := w.heap.size) (o := 5) (by simpa using zl) (by omega) (Gr.keep (Gr.refl _).drew z5))
            (try go_wp2_with fail)
            refine hK.out _ _ (by first | with_reducible exact zc | exact Gr.keep (Gr.refl _).drew z5) (fun hHeldN => ?_)
            clear hHeld hK K
            have hHeld := hHeldN
            clear hHeldN
            refine wpAnyH_done (by kernel_rfl) ?_ _
            have hgn2 := (GB.ofGr (Gr.refl w5).drew).trans hgn
            have HK7 := Lib.hid hpn
            have HG7 := Lib.hid (HG5.out.trans hgn2)
            have HB7 := Lib.hid (GB.cs hgn2 HB5.out (by omega))
            have HD7 := Lib.hid (GB.cs hgn2 HD5.out (by omega))
            have HF7 := Lib.hid (HF5.out.gb hgn2)
            have HM7 := Lib.hid (HM5.out.gb hgn2 HYg.out)
            clear hHeld hpn hgn hgn2 zc z5 zl HAn
            clear HK5 HG5 HB5 HD5 HF5 HM5
            have z3 := HB7.out.at_ 3 _ rfl
            have zl := HB7.out.lt
            by_cases qs : s = 0
            · have qsb : (s == 0) = true := by rw [beq_iff_eq]; exact qs
              have HTR3 : Hid (TR = (0, false, Lk.hit CX l1 ac)) := by show _ = _; rw [HTR2.out, if_pos qs]
              have c0 := HD7.out.at_ 0 _ rfl
              have c1 := HD7.out.at_ 1 _ rfl
              have c2 := HD7.out.at_ 2 _ rfl
              have c3 := HD7.out.at_ 3 _ rfl
              have c4 := HD7.out.at_ 4 _ rfl
              have c5 := HD7.out.at_ 5 _ rfl
              have cf0 := HD7.out.fz 0 (by simp)
              have cf1 := HD7.out.fz 1 (by simp)
              have cf2 := HD7.out.fz 2 (by simp)
              have cf3 := HD7.out.fz 3 (by simp)
              have cf4 := HD7.out.fz 4 (by simp)
              have cf5 := HD7.out.fz 5 (by simp)
              have clt := HD7.out.lt
              clear qs
              go_wp2
              refine bodyPost_ret (v := .tuple #[.agg #[.int .i64 0, .int .i64 0, .int .i64 0, .slice none 0 0, .string ⟨#[]⟩, .int .i64 0], .bool false, .int .i64 0]) (by simp [results, Try.results6, go_sem, *]) rfl ?_
              rw [HTR3.out]
              refine TnR.no ?_ (HG7.out.set6 _ (by omega) _ _ _ _ _ _)
              exact (HK7.out.gb (gb_set6 _ _ _ _ _ _ _ _) HYn.out (by omega)).turn (fun b _ k => HYz.out b k) HZg.out
            · have qsb : (s == 0) = false := by rw [beq_eq_false_iff_ne]; exact qs
              have HTR3 : Hid (TR = Lk.lay (Lk.hit CX l1 ac) s) := by show _ = _; rw [HTR2.out, if_neg qs]
              clear qs HTR2
              obtain ⟨pa, pc, pE, pa2, pc2, hpk⟩ := HK7.out
              have p8 := hpk.cs.at_ 8 _ rfl
              have f8 := hpk.cs.fz 8 (by simp)
              have pl := hpk.cs.lt
              have hp8 := hpk.owe true
              clear hpk
              have HK8 := Lib.hid (show PkAt _ _ g _ from ⟨_, _, _, _, _, hp8⟩)
              have HG8 := Lib.hid (HG7.out.trans (gb_set g 8 wn (.bool true)))
              have HB8 := Lib.hid (GB.cs (gb_set g 8 wn (.bool true)) HB7.out (by omega))
              have HD8 := Lib.hid (GB.cs (gb_set g 8 wn (.bool true)) HD7.out (by omega))
              have HF8 := Lib.hid (HF7.out.gb (gb_set g 8 wn (.bool true)))
              have HM8 := Lib.hid (HM7.out.gb (gb_set g 8 wn (.bool true)) HYg.out)
              clear hp8
              clear HK7 HG7 HB7 HD7 HF7 HM7
              have b0 := HB8.out.at_ 0 _ rfl
              have b1 := HB8.out.at_ 1 _ rfl
              have b2 := HB8.out.at_ 2 _ rfl
              have b3 := HB8.out.at_ 3 _ rfl
              have b4 := HB8.out.at_ 4 _ rfl
              have b5 := HB8.out.at_ 5 _ rfl
              have b6 := HB8.out.at_ 6 _ rfl
              have b7 := HB8.out.at_ 7 _ rfl
              have b8 := HB8.out.at_ 8 _ rfl
              have b9 := HB8.out.at_ 9 _ rfl
              have b10 := HB8.out.at_ 10 _ rfl
              have b11 := HB8.out.at_ 11 _ rfl
              have bf0 := HB8.out.fz 0 (by simp)
              have bf1 := HB8.out.fz 1 (by simp)
              have bf2 := HB8.out.fz 2 (by simp)
              have bf3 := HB8.out.fz 3 (by simp)
              have bf4 := HB8.out.fz 4 (by simp)
              have bf5 := HB8.out.fz 5 (by simp)
              have bf6 := HB8.out.fz 6 (by simp)
              have bf7 := HB8.out.fz 7 (by simp)
              have bf8 := HB8.out.fz 8 (by simp)
              have bf9 := HB8.out.fz 9 (by simp)
              have bf10 := HB8.out.fz 10 (by simp)
              have bf11 := HB8.out.fz 11 (by simp)
              have blt := HB8.out.lt
              generalize Lk.hit CX l1 ac = l2 at *
              have HCl := Lib.hid (HTn.out { l2 with ow := true } _ HK8.out HF8.out HM8.out)
              unfold TnR at HCl
              rw [lay1_lay { l2 with ow := true } s rfl] at HCl
              have hly : Lk.lay { l2 with ow := true } s = Lk.lay l2 s := by unfold Lk.lay; rfl
              rw [hly, ← HTR3.out] at HCl
              clear hly
              obtain ⟨xN, hxN⟩ : ∃ xN, (if TR.2.1 = true then (⟨k0, r, n, L, d, y⟩ : Nt) else Nt.zeroN) = xN := ⟨_, rfl⟩
              rw [hxN] at HCl
              have hxn := Lib.hid hxN
              clear hxN
              obtain ⟨k1, r1, n1, L1, d1, y1⟩ := xN
              dsimp only [Mn.v] at *
              generalize hl1 : L1.length = ll1 at *
              go_wp2_with fail
              refine HCl.out.mono ?_
              rintro e6 w6 ⟨a6, c6, rfl, hm6, hk6, hg6⟩
              have HM6 := Lib.hid hm6
              have HK6 := Lib.hid hk6
              have HG6 := Lib.hid (HG8.out.trans hg6)
              have hd6 := hg6.cs HD8.out (by omega)
              have c0 := hd6.at_ 0 _ rfl
              have c1 := hd6.at_ 1 _ rfl
              have c2 := hd6.at_ 2 _ rfl
              have c3 := hd6.at_ 3 _ rfl
              have c4 := hd6.at_ 4 _ rfl
              have c5 := hd6.at_ 5 _ rfl
              have cf0 := hd6.fz 0 (by simp)
              have cf1 := hd6.fz 1 (by simp)
              have cf2 := hd6.fz 2 (by simp)
              have cf3 := hd6.fz 3 (by simp)
              have cf4 := hd6.fz 4 (by simp)
              have cf5 := hd6.fz 5 (by simp)
              have clt := hd6.lt
              clear hm6 hk6 hg6 hd6 b0 b1 b2 b3 b4 b5 b6 b7 b8 b9 b10 b11 bf0 bf1 bf2 bf3 bf4 bf5 bf6 bf7 bf8 bf9 bf10 bf11 blt p8 f8 pl
              clear HK8 HG8 HB8 HD8 HF8 HM8
              go_wp2
              refine bodyPost_ret (v := .tuple #[.agg #[.int .i64 k1, .int .i64 r1, .int .i64 n1, .slice a6 ll1 c6, .string d1, .int .i64 y1], .bool TR.2.1, .int .i64 TR.1]) (by simp [results, Try.results6, go_sem, *]) rfl ?_
              refine ⟨a6, c6, by rw [hxn.out, ← hl1], by rw [hxn.out]; exact (HM6.out.gb (gb_set6 _ _ _ _ _ _ _ _) HYn.out).turn (fun b _ k => HYz.out b k), (HK6.out.gb (gb_set6 _ _ _ _ _ _ _ _) HYn.out (by omega)).turn (fun b _ k => HYz.out b k) HZg.out, HG6.out.set6 _ (by omega) _ _ _ _ _ _⟩
        · have qb : (ae != l1.ep) = true := bne_iff_ne.2 qa
          have HTR2 : Hid (TR = (200, false, { l1 with ow := true })) := by show _ = _; rw [HTR.out, if_neg qa]
          clear qa HTR
          go_wp2
          go_region
          all_goals
            obtain ⟨w5, hw5⟩ : ∃ x, x = World.drew w4 := ⟨_, rfl⟩
            rw [← hw5]
            have hg5 : Gr w4 w5 := by rw [hw5]; exact (Gr.refl _).drew
            have HK5 := Lib.hid (HK4.out.gr hg5)
            have HG5 := Lib.hid (HG4.out.gr hg5)
            have HB5 := Lib.hid (HB4.out.gr hg5)
            have HD5 := Lib.hid (HD4.out.gr hg5)
            have HF5 := Lib.hid (HF4.out.gr hg5)
            have HM5 := Lib.hid (HM4.out.gr hg5)
            clear hg5 hw5 z4 zl p2 pl
            obtain ⟨pa, pc, pE, pa2, pc2, hpk⟩ := HK5.out
            have p8 := hpk.cs.at_ 8 _ rfl
            have f8 := hpk.cs.fz 8 (by simp)
            have pl := hpk.cs.lt
            have hp8 := hpk.owe true
            clear hpk
            have HK6 := Lib.hid (show PkAt _ _ g _ from ⟨_, _, _, _, _, hp8⟩)
            have HG6 := Lib.hid (HG5.out.trans (gb_set g 8 w5 (.bool true)))
            have HB6 := Lib.hid (GB.cs (gb_set g 8 w5 (.bool true)) HB5.out (by omega))
            have HD6 := Lib.hid (GB.cs (gb_set g 8 w5 (.bool true)) HD5.out (by omega))
            have HF6 := Lib.hid (HF5.out.gb (gb_set g 8 w5 (.bool true)))
            have HM6 := Lib.hid (HM5.out.gb (gb_set g 8 w5 (.bool true)) HYg.out)
            clear hp8
            have c0 := HD6.out.at_ 0 _ rfl
            have c1 := HD6.out.at_ 1 _ rfl
            have c2 := HD6.out.at_ 2 _ rfl
            have c3 := HD6.out.at_ 3 _ rfl
            have c4 := HD6.out.at_ 4 _ rfl
            have c5 := HD6.out.at_ 5 _ rfl
            have cf0 := HD6.out.fz 0 (by simp)
            have cf1 := HD6.out.fz 1 (by simp)
            have cf2 := HD6.out.fz 2 (by simp)
            have cf3 := HD6.out.fz 3 (by simp)
            have cf4 := HD6.out.fz 4 (by simp)
            have cf5 := HD6.out.fz 5 (by simp)
            have clt := HD6.out.lt
            go_wp2
            refine bodyPost_ret (v := .tuple #[.agg #[.int .i64 0, .int .i64 0, .int .i64 0, .slice none 0 0, .string ⟨#[]⟩, .int .i64 0], .bool false, .int .i64 200]) (by simp [results, Try.results6, go_sem, *]) rfl ?_
            rw [HTR2.out]
            refine TnR.no ?_ (HG6.out.set6 _ (by omega) _ _ _ _ _ _)
            exact (HK6.out.gb (gb_set6 _ _ _ _ _ _ _ _) HYn.out (by omega)).turn (fun b _ k => HYz.out b k) HZg.out
    · have hls := HLs.out (by omega)
      rw [hls] at HTR
      clear HBg HLs hls
      go_wp2
      go_region
      all_goals
        obtain ⟨w3, hw3⟩ : ∃ x, x = World.drew w2 := ⟨_, rfl⟩
        rw [← hw3]
        have hg3 : Gr w2 w3 := by rw [hw3]; exact (Gr.refl _).drew
        have HK3 := Lib.hid (HK2.out.gr hg3)
        have HG3 := Lib.hid (HG2.out.gr hg3)
        have HB3 := Lib.hid (HB2.out.gr hg3)
        have HD3 := Lib.hid (HD2.out.gr hg3)
        have HF3 := Lib.hid (HF2.out.gr hg3)
        have HM3 := Lib.hid (HM2.out.gr hg3)
        clear hg3 hw3 b2 bl p5 pl
        clear HK2 HG2 HB2 HD2 HF2 HM2
        have HEq : Hid (l = l) := rfl
        generalize l = l1 at *
        have z4 := HB3.out.at_ 4 _ rfl
        have zl := HB3.out.lt
        obtain ⟨pa, pc, pE, pa2, pc2, hpk⟩ := HK3.out
        have p2 := hpk.cs.at_ 2 _ rfl
        have pl := hpk.cs.lt
        clear hpk
        by_cases qa : ae = l1.ep
        · have qb : (ae != l1.ep) = false := by simp [qa]
          have HTR2 : Hid (TR = if s = 0 then (0, false, Lk.hit CX l1 ac) else Lk.lay (Lk.hit CX l1 ac) s) := by show _ = _; rw [HTR.out, if_pos qa]
          clear qa HTR
          go_wp2
          go_region
          all_goals
            obtain ⟨w4, hw4⟩ : ∃ x, x = World.drew w3 := ⟨_, rfl⟩
            rw [← hw4]
            have hg4 : Gr w3 w4 := by rw [hw4]; exact (Gr.refl _).drew
            have HK4 := Lib.hid (HK3.out.gr hg4)
            have HG4 := Lib.hid (HG3.out.gr hg4)
            have HB4 := Lib.hid (HB3.out.gr hg4)
            have HD4 := Lib.hid (HD3.out.gr hg4)
            have HF4 := Lib.hid (HF3.out.gr hg4)
            have HM4 := Lib.hid (HM3.out.gr hg4)
            clear hg4 hw4 z4 zl p2 pl
            have z5 := HB4.out.at_ 5 _ rfl
            have zl := HB4.out.lt
            go_wp2_with fail
            refine wp_region_held_drew (S := (fun w' => w'.cell? ⟨w.heap.size, 5, none⟩ = some (.int .i64 ac))) (by kernel_rfl) (by first | with_reducible exact zc | exact Gr.keep (Gr.refl _).drew z5) (fun hHeld => ?_)
            refine ty 0 46 hHeld ?_
            refine ty 1 47 hHeld ?_
            refine ty 2 48 hHeld ?_
            refine ty 3 49 hHeld ?_
            refine ty 4 50 hHeld ?_
            refine wpAnyH_ready (rs := [5]) (by kernel_rfl) (by simp) (AllReadyH.cons rfl (fun K hK => ?_) AllReadyH.nil)
            go_simp
            (go_at_call 22; refine (HAn.out l1 _ (HF4.out.gr (Gr.refl _).drew) (HK4.out.gr (Gr.refl _).drew)).mono ?_; rintro e wn ⟨⟨v, rfl⟩, hpn, hgn⟩; have zc := hgn.keep (g := w.heap.size) (o := 5) (by simpa using zl) (by omega) (Gr.keep (Gr.refl _).drew z5))
            (try go_wp2_with fail)
            refine hK.out _ _ (by first | with_reducible exact zc | exact Gr.keep (Gr.refl _).drew z5) (fun hHeldN => ?_)
            clear hHeld hK K
            have hHeld := hHeldN
            clear hHeldN
            refine wpAnyH_done (by kernel_rfl) ?_ _
            have hgn2 := (GB.ofGr (Gr.refl w4).drew).trans hgn
            have HK6 := Lib.hid hpn
            have HG6 := Lib.hid (HG4.out.trans hgn2)
            have HB6 := Lib.hid (GB.cs hgn2 HB4.out (by omega))
            have HD6 := Lib.hid (GB.cs hgn2 HD4.out (by omega))
            have HF6 := Lib.hid (HF4.out.gb hgn2)
            have HM6 := Lib.hid (HM4.out.gb hgn2 HYg.out)
            clear hHeld hpn hgn hgn2 zc z5 zl HAn
            clear HK4 HG4 HB4 HD4 HF4 HM4
            have z3 := HB6.out.at_ 3 _ rfl
            have zl := HB6.out.lt
            by_cases qs : s = 0
            · have qsb : (s == 0) = true := by rw [beq_iff_eq]; exact qs
              have HTR3 : Hid (TR = (0, false, Lk.hit CX l1 ac)) := by show _ = _; rw [HTR2.out, if_pos qs]
              have c0 := HD6.out.at_ 0 _ rfl
              have c1 := HD6.out.at_ 1 _ rfl
              have c2 := HD6.out.at_ 2 _ rfl
              have c3 := HD6.out.at_ 3 _ rfl
              have c4 := HD6.out.at_ 4 _ rfl
              have c5 := HD6.out.at_ 5 _ rfl
              have cf0 := HD6.out.fz 0 (by simp)
              have cf1 := HD6.out.fz 1 (by simp)
              have cf2 := HD6.out.fz 2 (by simp)
              have cf3 := HD6.out.fz 3 (by simp)
              have cf4 := HD6.out.fz 4 (by simp)
              have cf5 := HD6.out.fz 5 (by simp)
              have clt := HD6.out.lt
              clear qs
              go_wp2
              refine bodyPost_ret (v := .tuple #[.agg #[.int .i64 0, .int .i64 0, .int .i64 0, .slice none 0 0, .string ⟨#[]⟩, .int .i64 0], .bool false, .int .i64 0]) (by simp [results, Try.results6, go_sem, *]) rfl ?_
              rw [HTR3.out]
              refine TnR.no ?_ (HG6.out.set6 _ (by omega) _ _ _ _ _ _)
              exact (HK6.out.gb (gb_set6 _ _ _ _ _ _ _ _) HYn.out (by omega)).turn (fun b _ k => HYz.out b k) HZg.out
            · have qsb : (s == 0) = false := by rw [beq_eq_false_iff_ne]; exact qs
              have HTR3 : Hid (TR = Lk.lay (Lk.hit CX l1 ac) s) := by show _ = _; rw [HTR2.out, if_neg qs]
              clear qs HTR2
              obtain ⟨pa, pc, pE, pa2, pc2, hpk⟩ := HK6.out
              have p8 := hpk.cs.at_ 8 _ rfl
              have f8 := hpk.cs.fz 8 (by simp)
              have pl := hpk.cs.lt
              have hp8 := hpk.owe true
              clear hpk
              have HK7 := Lib.hid (show PkAt _ _ g _ from ⟨_, _, _, _, _, hp8⟩)
              have HG7 := Lib.hid (HG6.out.trans (gb_set g 8 wn (.bool true)))
              have HB7 := Lib.hid (GB.cs (gb_set g 8 wn (.bool true)) HB6.out (by omega))
              have HD7 := Lib.hid (GB.cs (gb_set g 8 wn (.bool true)) HD6.out (by omega))
              have HF7 := Lib.hid (HF6.out.gb (gb_set g 8 wn (.bool true)))
              have HM7 := Lib.hid (HM6.out.gb (gb_set g 8 wn (.bool true)) HYg.out)
              clear hp8
              clear HK6 HG6 HB6 HD6 HF6 HM6
              have b0 := HB7.out.at_ 0 _ rfl
              have b1 := HB7.out.at_ 1 _ rfl
              have b2 := HB7.out.at_ 2 _ rfl
              have b3 := HB7.out.at_ 3 _ rfl
              have b4 := HB7.out.at_ 4 _ rfl
              have b5 := HB7.out.at_ 5 _ rfl
              have b6 := HB7.out.at_ 6 _ rfl
              have b7 := HB7.out.at_ 7 _ rfl
              have b8 := HB7.out.at_ 8 _ rfl
              have b9 := HB7.out.at_ 9 _ rfl
              have b10 := HB7.out.at_ 10 _ rfl
              have b11 := HB7.out.at_ 11 _ rfl
              have bf0 := HB7.out.fz 0 (by simp)
              have bf1 := HB7.out.fz 1 (by simp)
              have bf2 := HB7.out.fz 2 (by simp)
              have bf3 := HB7.out.fz 3 (by simp)
              have bf4 := HB7.out.fz 4 (by simp)
              have bf5 := HB7.out.fz 5 (by simp)
              have bf6 := HB7.out.fz 6 (by simp)
              have bf7 := HB7.out.fz 7 (by simp)
              have bf8 := HB7.out.fz 8 (by simp)
              have bf9 := HB7.out.fz 9 (by simp)
              have bf10 := HB7.out.fz 10 (by simp)
              have bf11 := HB7.out.fz 11 (by simp)
              have blt := HB7.out.lt
              generalize Lk.hit CX l1 ac = l2 at *
              have HCl := Lib.hid (HTn.out { l2 with ow := true } _ HK7.out HF7.out HM7.out)
              unfold TnR at HCl
              rw [lay1_lay { l2 with ow := true } s rfl] at HCl
              have hly : Lk.lay { l2 with ow := true } s = Lk.lay l2 s := by unfold Lk.lay; rfl
              rw [hly, ← HTR3.out] at HCl
              clear hly
              obtain ⟨xN, hxN⟩ : ∃ xN, (if TR.2.1 = true then (⟨k0, r, n, L, d, y⟩ : Nt) else Nt.zeroN) = xN := ⟨_, rfl⟩
              rw [hxN] at HCl
              have hxn := Lib.hid hxN
              clear hxN
              obtain ⟨k1, r1, n1, L1, d1, y1⟩ := xN
              dsimp only [Mn.v] at *
              generalize hl1 : L1.length = ll1 at *
              go_wp2_with fail
              refine HCl.out.mono ?_
              rintro e6 w6 ⟨a6, c6, rfl, hm6, hk6, hg6⟩
              have HM6 := Lib.hid hm6
              have HK6 := Lib.hid hk6
              have HG6 := Lib.hid (HG7.out.trans hg6)
              have hd6 := hg6.cs HD7.out (by omega)
              have c0 := hd6.at_ 0 _ rfl
              have c1 := hd6.at_ 1 _ rfl
              have c2 := hd6.at_ 2 _ rfl
              have c3 := hd6.at_ 3 _ rfl
              have c4 := hd6.at_ 4 _ rfl
              have c5 := hd6.at_ 5 _ rfl
              have cf0 := hd6.fz 0 (by simp)
              have cf1 := hd6.fz 1 (by simp)
              have cf2 := hd6.fz 2 (by simp)
              have cf3 := hd6.fz 3 (by simp)
              have cf4 := hd6.fz 4 (by simp)
              have cf5 := hd6.fz 5 (by simp)
              have clt := hd6.lt
              clear hm6 hk6 hg6 hd6 b0 b1 b2 b3 b4 b5 b6 b7 b8 b9 b10 b11 bf0 bf1 bf2 bf3 bf4 bf5 bf6 bf7 bf8 bf9 bf10 bf11 blt p8 f8 pl
              clear HK7 HG7 HB7 HD7 HF7 HM7
              go_wp2
              refine bodyPost_ret (v := .tuple #[.agg #[.int .i64 k1, .int .i64 r1, .int .i64 n1, .slice a6 ll1 c6, .string d1, .int .i64 y1], .bool TR.2.1, .int .i64 TR.1]) (by simp [results, Try.results6, go_sem, *]) rfl ?_
              refine ⟨a6, c6, by rw [hxn.out, ← hl1], by rw [hxn.out]; exact (HM6.out.gb (gb_set6 _ _ _ _ _ _ _ _) HYn.out).turn (fun b _ k => HYz.out b k), (HK6.out.gb (gb_set6 _ _ _ _ _ _ _ _) HYn.out (by omega)).turn (fun b _ k => HYz.out b k) HZg.out, HG6.out.set6 _ (by omega) _ _ _ _ _ _⟩
        · have qb : (ae != l1.ep) = true := bne_iff_ne.2 qa
          have HTR2 : Hid (TR = (200, false, { l1 with ow := true })) := by show _ = _; rw [HTR.out, if_neg qa]
          clear qa HTR
          go_wp2
          go_region
          all_goals
            obtain ⟨w4, hw4⟩ : ∃ x, x = World.drew w3 := ⟨_, rfl⟩
            rw [← hw4]
            have hg4 : Gr w3 w4 := by rw [hw4]; exact (Gr.refl _).drew
            have HK4 := Lib.hid (HK3.out.gr hg4)
            have HG4 := Lib.hid (HG3.out.gr hg4)
            have HB4 := Lib.hid (HB3.out.gr hg4)
            have HD4 := Lib.hid (HD3.out.gr hg4)
            have HF4 := Lib.hid (HF3.out.gr hg4)
            have HM4 := Lib.hid (HM3.out.gr hg4)
            clear hg4 hw4 z4 zl p2 pl
            obtain ⟨pa, pc, pE, pa2, pc2, hpk⟩ := HK4.out
            have p8 := hpk.cs.at_ 8 _ rfl
            have f8 := hpk.cs.fz 8 (by simp)
            have pl := hpk.cs.lt
            have hp8 := hpk.owe true
            clear hpk
            have HK5 := Lib.hid (show PkAt _ _ g _ from ⟨_, _, _, _, _, hp8⟩)
            have HG5 := Lib.hid (HG4.out.trans (gb_set g 8 w4 (.bool true)))
            have HB5 := Lib.hid (GB.cs (gb_set g 8 w4 (.bool true)) HB4.out (by omega))
            have HD5 := Lib.hid (GB.cs (gb_set g 8 w4 (.bool true)) HD4.out (by omega))
            have HF5 := Lib.hid (HF4.out.gb (gb_set g 8 w4 (.bool true)))
            have HM5 := Lib.hid (HM4.out.gb (gb_set g 8 w4 (.bool true)) HYg.out)
            clear hp8
            have c0 := HD5.out.at_ 0 _ rfl
            have c1 := HD5.out.at_ 1 _ rfl
            have c2 := HD5.out.at_ 2 _ rfl
            have c3 := HD5.out.at_ 3 _ rfl
            have c4 := HD5.out.at_ 4 _ rfl
            have c5 := HD5.out.at_ 5 _ rfl
            have cf0 := HD5.out.fz 0 (by simp)
            have cf1 := HD5.out.fz 1 (by simp)
            have cf2 := HD5.out.fz 2 (by simp)
            have cf3 := HD5.out.fz 3 (by simp)
            have cf4 := HD5.out.fz 4 (by simp)
            have cf5 := HD5.out.fz 5 (by simp)
            have clt := HD5.out.lt
            go_wp2
            refine bodyPost_ret (v := .tuple #[.agg #[.int .i64 0, .int .i64 0, .int .i64 0, .slice none 0 0, .string ⟨#[]⟩, .int .i64 0], .bool false, .int .i64 200]) (by simp [results, Try.results6, go_sem, *]) rfl ?_
            rw [HTR2.out]
            refine TnR.no ?_ (HG5.out.set6 _ (by omega) _ _ _ _ _ _)
            exact (HK5.out.gb (gb_set6 _ _ _ _ _ _ _ _) HYn.out (by omega)).turn (fun b _ k => HYz.out b k) HZg.out
  · have qrb : (re != 0) = true := bne_iff_ne.2 qr
    have HTR := Lib.hid (HR0.out qr)
    have c0 := HD2.out.at_ 0 _ rfl
    have c1 := HD2.out.at_ 1 _ rfl
    have c2 := HD2.out.at_ 2 _ rfl
    have c3 := HD2.out.at_ 3 _ rfl
    have c4 := HD2.out.at_ 4 _ rfl
    have c5 := HD2.out.at_ 5 _ rfl
    have cf0 := HD2.out.fz 0 (by simp)
    have cf1 := HD2.out.fz 1 (by simp)
    have cf2 := HD2.out.fz 2 (by simp)
    have cf3 := HD2.out.fz 3 (by simp)
    have cf4 := HD2.out.fz 4 (by simp)
    have cf5 := HD2.out.fz 5 (by simp)
    have clt := HD2.out.lt
    clear qr HR0 HR1
    go_wp2
    refine bodyPost_ret (v := .tuple #[.agg #[.int .i64 0, .int .i64 0, .int .i64 0, .slice none 0 0, .string ⟨#[]⟩, .int .i64 0], .bool false, .int .i64 re]) (by simp [results, Try.results6, go_sem, *]) rfl ?_
    rw [HTR.out]
    refine TnR.no ?_ (HG2.out.set6 _ (by omega) _ _ _ _ _ _)
    exact (HK2.out.gb (gb_set6 _ _ _ _ _ _ _ _) HYn.out (by omega)).turn (fun b _ k => HYz.out b k) HZg.out
end Go.Proofs.Ythfbpilfdfploaa
