/- Parts of these proofs, laid together. -/
import Derived.Test.YthfbpilfdfploaaGreatGL
import Derived.Test.YthfbpilfdfploaaGreatGP
import Derived.Test.YthfbpilfdfploaaGreatGV
import Derived.Test.YthfbpilfdfploaaGreatGO
namespace Go.Proofs.YthfbpilfdfploaaGreat
open Go.RowKit
open Lk (St)

variable {Z : Nat → Prop}
theorem LkAt.turn {Y : Nat → Prop} {w : World} {g : Nat} {l : St Nx} (h : LkAt Z w g l) (hy : ∀ b, b < w.heap.size → Z b → Y b) (hg : ¬ Y g) : LkAt Y w g l := by
  obtain ⟨a, c, E, a2, c2, h⟩ := h
  exact ⟨a, c, E, a2, c2, h.cs, h.rw.turn hy, hg⟩
theorem take_same {W : Wn.Wd} {q : Int} (h : (Wn.take W q).2.1 = false ∧ (Wn.take W q).2.2 = 0) : (Wn.take W q).1 = W := by
  unfold Wn.take at h ⊢
  split
  · rename_i c
    rw [if_pos c] at h
    split
    · rename_i c2
      rw [if_pos c2] at h
      simp at h
    · rename_i c2
      rw [if_neg c2] at h
      split
      · rfl
      · rename_i c3
        rw [if_neg c3] at h
        simp at h
  · rename_i c
    rw [if_neg c] at h
    simp at h
/- a window that was answered, in a box -/
structure AlW (a0 : Option Addr) (Hd : Prop) (w0 w : World) (g : Nat) (ad : Option Addr) (cap : Nat) (W : Wn.Wd) : Prop where
  lo : w0.heap.size ≤ g
  bx : Bx2 w g (.int .i64 W.low) (.slice ad W.seen.length cap)
  wd : WdAt w ad cap W
  ne : ∀ p, ad = some p → (a0 = some p ∧ Hd) ∨ w0.heap.size ≤ p.block
  gr : Gr w0 w
def AlJ (a0 : Option Addr) (Hd : Prop) (w0 wx : World) (p : Value) (W : Wn.Wd) : Prop := ∃ g ad cap, p = .pointer (some ⟨g, 0, none⟩) ∧ AlW a0 Hd w0 wx g ad cap W
theorem alj_last {a0 : Option Addr} {Hd : Prop} {w0 w1 : World} {W : Wn.Wd} {ad : Option Addr} {cap : Nat} (hg : Gr w0 w1) (hw : WdAt w1 ad cap W) (hb : ∀ p, ad = some p → (a0 = some p ∧ Hd) ∨ w0.heap.size ≤ p.block) (t : TypeId) :
    AlJ a0 Hd w0 (w1.alloc (.cells #[.int .i64 W.low, .slice ad W.seen.length cap] t)) (.pointer (some ⟨w1.heap.size, 0, none⟩)) W :=
  ⟨_, ad, cap, rfl, hg.size, Bx2.new w1 _ _ _ _ rfl, hw.gr (Gr.refl _).alloc, hb, hg.alloc⟩
theorem alj_first {a0 : Option Addr} {Hd : Prop} {w0 w1 : World} {W : Wn.Wd} {ad : Option Addr} {cap : Nat} {g : Nat} (lo : w0.heap.size ≤ g) (hg : Gr w0 w1) (hb : Bx2 w1 g (.int .i64 0) (.slice none 0 0)) (hw : WdAt w1 ad cap W) (hne : ∀ p, ad = some p → (a0 = some p ∧ Hd) ∨ w0.heap.size ≤ p.block) (hn : W.seen ≠ [] → ∀ p, ad = some p → p.block ≠ g) :
    AlJ a0 Hd w0 ((w1.setCell ⟨g, 0, none⟩ (.int .i64 W.low)).setCell ⟨g, 1, none⟩ (.slice ad W.seen.length cap)) (.pointer (some ⟨g, 0, none⟩)) W := by
  refine ⟨g, ad, cap, rfl, lo, ?_, ⟨(hw.row.gb (gb_set g 0 w1 _) hn).gb (gb_set g 1 _ _) hn, hw.fits, hw.len, hw.non, hw.lo0, hw.lo1⟩, hne, gr_set2 hg g lo _ _⟩
  obtain ⟨h0, h1, f0, f1, hl⟩ := hb
  exact ⟨by simp [go_sem, *], by simp [go_sem, *], by simp [go_sem, *], by simp [go_sem, *], by simpa using hl⟩
/- what the document's Take answers -/
def TnL (Z : Nat → Prop) (g : Nat) (x : Nt) (r : Int × Bool × St Nx) (w : World) (e : Ending) (w' : World) : Prop :=
  ∃ a c, e = .returned (.tuple #[Mn.v ⟨if r.2.1 = true then x else Nt.zeroN, a, c⟩, .bool r.2.1, .int .i64 r.1]) ∧ MnAt Z w' ⟨if r.2.1 = true then x else Nt.zeroN, a, c⟩ ∧ LkAt Z w' g r.2.2 ∧ GB g w w'
theorem TnL.no {g : Nat} {x : Nt} {c : Int} {l : St Nx} {w w' : World} (h : LkAt Z w' g l) (hg : GB g w w') : TnL Z g x (c, false, l) w (.returned (.tuple #[.agg #[.int .i64 0, .int .i64 0, .int .i64 0, .slice none 0 0, .string ⟨#[]⟩, .int .i64 0], .bool false, .int .i64 c])) w' :=
  ⟨none, 0, rfl, zero_mn _, h, hg⟩
set_option maxHeartbeats 32000000 in
set_option maxRecDepth 100000 in
theorem rTake_any (g : Nat) (l : St Nx) (x : Mf) (now : Int) (w : World) (h : LkAt Z w g l) (hF : Frs Z w) (hm : MnAt Z w x.m) :
    Calls Tryz.prog 11 #[.pointer (some ⟨g, 0, none⟩), x.v, .int .i64 now] w fun e w' => TnL Z g x.m.x (Lk.takeR CX l x.fr now) w e w' := by
  have hgl := h.lt
  have HZg : Hid (¬ Z g) := h.nz
  obtain ⟨Y, hY⟩ : ∃ Y, Y = Bt Z (w.heap.size + 1) := ⟨_, rfl⟩
  have HYn : Hid (¬ Y (w.heap.size + 1)) := by show ¬ _; rw [hY]; exact Bt.no
  have HYg : Hid (¬ Y g) := by show ¬ _; rw [hY]; exact fun k => HZg.out k.1
  have HYz : Hid (∀ b, Y b → Z b) := by show ∀ b, _; rw [hY]; exact fun b k => k.1
  have hkY : LkAt Y w g l := h.turn (fun b hb hz => by rw [hY]; exact ⟨hz, by omega⟩) HYg.out
  have hmY : MnAt Y w x.m := hm.turn (fun b hb hz => by rw [hY]; exact ⟨hz, by omega⟩)
  have HN : Hid (∀ w', Gr w w' → Calls Tryz.prog 32 #[x.v] w' fun e w2 => e = .returned (.int .i64 (Nt.frE ⟨x.f, x.t, x.e, x.s, x.a, x.c, x.m.x⟩)) ∧ Gr w' w2) := fun w' k => refNFrame_any x.f x.t x.e x.s x.a x.c x.m.x.k x.m.x.r x.m.x.n x.m.x.L x.m.x.d x.m.x.y x.m.ad x.m.cap w' (hm.hp.gr k) hm.hl hm.hd
  have HE : Hid (Nt.frE ⟨x.f, x.t, x.e, x.s, x.a, x.c, x.m.x⟩ = if Nt.frB ⟨x.f, x.t, x.e, x.s, x.a, x.c, x.m.x⟩ = true then 0 else 130) := rfl
  have HRf : Hid (rfE l x.fr now = if Nt.frB ⟨x.f, x.t, x.e, x.s, x.a, x.c, x.m.x⟩ = true ∧ x.f = l.wi ∧ x.t = l.me then (if Ox.tmB now = true then (if x.e < l.kn then 200 else 0) else 2) else 130) := rfl
  have HR0 : Hid (rfE l x.fr now ≠ 0 → Lk.takeR CX l x.fr now = (rfE l x.fr now, false, l)) := fun h => rf_no h
  have HR1 : Hid (rfE l x.fr now = 0 → Lk.takeR CX l x.fr now = if x.a = (Lk.learn CX l x.e now).ep then (if x.s = 0 then (0, false, Lk.hit CX (Lk.learn CX l x.e now) x.c) else Lk.lay (Lk.hit CX (Lk.learn CX l x.e now) x.c) x.s) else (200, false, { Lk.learn CX l x.e now with ow := true })) := fun h => by
    obtain ⟨_, _, h3⟩ := rf_yes h
    rw [learn_ep]; exact h3
  have HLs : Hid (¬ l.kn < x.e → Lk.learn CX l x.e now = l) := fun h => learn_same h
  have HLn : Hid (l.kn < x.e → Lk.learn CX l x.e now = { l with kn := x.e, wn := ⟨0, []⟩, it := Ox.anew okN l.it now, nx := ((Ox.anew okN l.it now).length : Int) + 1 }) := fun hk => by
    unfold Lk.learn
    rw [if_pos hk]; rfl
  have HTm : Hid (Ox.tmB now = decide (0 ≤ now ∧ now ≤ 1000000000)) := rfl
  have HAl : Hid ((Ox.anew okN l.it now).length ≤ 12) := by
    show _ ≤ _
    unfold Ox.anew
    split
    · rename_i hc
      have := (Ox.mayB_iff _ _).1 hc.1
      rw [Ox.num_len]; exact this.len
    · simp
  generalize Lk.takeR CX l x.fr now = TR at *
  generalize rfE l x.fr now = re at *
  generalize Lk.learn CX l x.e now = LN at *
  generalize Nt.frE ⟨x.f, x.t, x.e, x.s, x.a, x.c, x.m.x⟩ = fe at *
  generalize Nt.frB ⟨x.f, x.t, x.e, x.s, x.a, x.c, x.m.x⟩ = fb at *
  have HF0 := Lib.hid hF
  clear h hF hm
  obtain ⟨f, t, ep, s, ae, ac, ⟨⟨k0, r, n, L, d, y⟩, ad, cap⟩⟩ := x
  dsimp only [Mf.v, Mn.v] at *
  generalize hll : L.length = ll at *
  have HLl := Lib.hid hll
  have B0 := Cs.new w [.int .i64 f, .int .i64 t, .int .i64 ep, .int .i64 s, .int .i64 ae, .int .i64 ac, .int .i64 k0, .int .i64 r, .int .i64 n, .slice ad ll cap, .string d, .int .i64 y] 38 _ rfl
  have D0 := Cs.new (w.alloc (.cells #[.int .i64 f, .int .i64 t, .int .i64 ep, .int .i64 s, .int .i64 ae, .int .i64 ac, .int .i64 k0, .int .i64 r, .int .i64 n, .slice ad ll cap, .string d, .int .i64 y] 38)) [.int .i64 0, .int .i64 0, .int .i64 0, .slice none 0 0, .string ⟨#[]⟩, .int .i64 0] 36 (w.heap.size + 1) (by simp)
  obtain ⟨w1, hw1⟩ : ∃ W2, W2 = (w.alloc (.cells #[.int .i64 f, .int .i64 t, .int .i64 ep, .int .i64 s, .int .i64 ae, .int .i64 ac, .int .i64 k0, .int .i64 r, .int .i64 n, .slice ad ll cap, .string d, .int .i64 y] 38)).alloc (.cells #[.int .i64 0, .int .i64 0, .int .i64 0, .slice none 0 0, .string ⟨#[]⟩, .int .i64 0] 36) := ⟨_, rfl⟩
  have hg1 : Gr w w1 := by rw [hw1]; exact (Gr.refl _).alloc.alloc
  have HGw := Lib.hid hg1
  have HB1 : Hid (Cs w1 w.heap.size [.int .i64 f, .int .i64 t, .int .i64 ep, .int .i64 s, .int .i64 ae, .int .i64 ac, .int .i64 k0, .int .i64 r, .int .i64 n, .slice ad ll cap, .string d, .int .i64 y]) := by show Cs _ _ _; rw [hw1]; exact B0.alloc
  have HD1 : Hid (Cs w1 (w.heap.size + 1) [.int .i64 0, .int .i64 0, .int .i64 0, .slice none 0 0, .string ⟨#[]⟩, .int .i64 0]) := by show Cs _ _ _; rw [hw1]; exact D0
  have hs1 : w1.heap.size = w.heap.size + 2 := by rw [hw1]; simp
  have HK1 := Lib.hid (hkY.gr hg1)
  have HM1 := Lib.hid (hmY.gr hg1)
  have HG1 := Lib.hid (GB.ofGr (b := g) hg1)
  have HF1 : Hid (Frs Y w1) := by show Frs _ _; rw [hY]; exact Bt.frs HF0.out hg1.size (by omega)
  have z0 := HB1.out.at_ 0 _ rfl
  have z1 := HB1.out.at_ 1 _ rfl
  have z2 := HB1.out.at_ 2 _ rfl
  have z3 := HB1.out.at_ 3 _ rfl
  have z4 := HB1.out.at_ 4 _ rfl
  have z5 := HB1.out.at_ 5 _ rfl
  have z6 := HB1.out.at_ 6 _ rfl
  have z7 := HB1.out.at_ 7 _ rfl
  have z8 := HB1.out.at_ 8 _ rfl
  have z9 := HB1.out.at_ 9 _ rfl
  have z10 := HB1.out.at_ 10 _ rfl
  have z11 := HB1.out.at_ 11 _ rfl
  have zf0 := HB1.out.fz 0 (by simp)
  have zf1 := HB1.out.fz 1 (by simp)
  have zf2 := HB1.out.fz 2 (by simp)
  have zf3 := HB1.out.fz 3 (by simp)
  have zf4 := HB1.out.fz 4 (by simp)
  have zf5 := HB1.out.fz 5 (by simp)
  have zf6 := HB1.out.fz 6 (by simp)
  have zf7 := HB1.out.fz 7 (by simp)
  have zf8 := HB1.out.fz 8 (by simp)
  have zf9 := HB1.out.fz 9 (by simp)
  have zf10 := HB1.out.fz 10 (by simp)
  have zf11 := HB1.out.fz 11 (by simp)
  have zlt := HB1.out.lt
  obtain ⟨pa, pc, pE, pa2, pc2, hpk⟩ := HK1.out
  have y0 := hpk.cs.at_ 0 _ rfl
  have y1 := hpk.cs.at_ 1 _ rfl
  have yl := hpk.cs.lt
  clear B0 D0 hg1 hkY hmY HF0 hY hs1 hll hpk zf0 zf1 zf2 zf3 zf4 zf5 zf6 zf7 zf8 zf9 zf10 zf11
  go_enter Tryz.func11, Tryz.ntmps11
  go_wp2_with fail
  rw [← hw1]
  clear hw1
  refine wp_region_held_drew (S := (fun w' => Gr w1 w' ∧ w'.cell? ⟨w.heap.size, 0, none⟩ = some (.int .i64 f) ∧ w'.cell? ⟨w.heap.size, 1, none⟩ = some (.int .i64 t) ∧ w'.cell? ⟨w.heap.size, 2, none⟩ = some (.int .i64 ep) ∧ w'.cell? ⟨w.heap.size, 3, none⟩ = some (.int .i64 s) ∧ w'.cell? ⟨w.heap.size, 4, none⟩ = some (.int .i64 ae) ∧ w'.cell? ⟨w.heap.size, 5, none⟩ = some (.int .i64 ac) ∧ w'.cell? ⟨w.heap.size, 6, none⟩ = some (.int .i64 k0) ∧ w'.cell? ⟨w.heap.size, 7, none⟩ = some (.int .i64 r) ∧ w'.cell? ⟨w.heap.size, 8, none⟩ = some (.int .i64 n) ∧ w'.cell? ⟨w.heap.size, 9, none⟩ = some (.slice ad ll cap) ∧ w'.cell? ⟨w.heap.size, 10, none⟩ = some (.string d) ∧ w'.cell? ⟨w.heap.size, 11, none⟩ = some (.int .i64 y) ∧ w'.cell? ⟨g, 0, none⟩ = some (.int .i64 l.me) ∧ w'.cell? ⟨g, 1, none⟩ = some (.int .i64 l.wi))) (by kernel_rfl) (by exact hold_fr (by repeat(first|exact Gr.r _|refine Gr.a ?_|refine Gr.d ?_|refine Gr.t ?_ (by assumption))) z0 z1 z2 z3 z4 z5 z6 z7 z8 z9 z10 z11 y0 y1) (fun hHeld => ?_)
  refine ty 0 12 hHeld ?_
  refine wpAnyH_ready (rs := [1]) (by kernel_rfl) (by simp) (AllReadyH.cons rfl (fun K hK => ?_) AllReadyH.nil)
  go_simp
  (go_at_call 32; refine (HN.out _ (HGw.out.trans hHeld.1)).mono ?_; rintro e w2 ⟨rfl, hgn⟩)
  (try go_wp2_with fail)
  refine hK.out _ _ (by exact hold_fr (by repeat(first|exact Gr.r _|refine Gr.a ?_|refine Gr.d ?_|refine Gr.t ?_ (by assumption))) z0 z1 z2 z3 z4 z5 z6 z7 z8 z9 z10 z11 y0 y1) (fun hHeldN => ?_)
  clear hHeld hK K
  have hHeld := hHeldN
  clear hHeldN
  have hg2 := hHeld.1
  have HK2 := Lib.hid (HK1.out.gr hg2)
  have HG2 := Lib.hid (HG1.out.gr hg2)
  have HB2 := Lib.hid (HB1.out.gr hg2)
  have HD2 := Lib.hid (HD1.out.gr hg2)
  have HF2 := Lib.hid (HF1.out.gr hg2)
  have HM2 := Lib.hid (HM1.out.gr hg2)
  clear hg2 z0 z1 z2 z3 z4 z5 z6 z7 z8 z9 z10 z11 zlt y0 y1 yl HN HGw
  clear HK1 HG1 HB1 HD1 HF1 HM1
  cases fb with
  | false =>
    have hfe : fe = 130 := HE.out
    subst hfe
    have hre : re = 130 := by rw [HRf.out, if_neg (by simp)]
    have HTR := Lib.hid (HR0.out (by omega))
    rw [hre] at HTR
    have c0 := HD2.out.at_ 0 _ rfl
    have c1 := HD2.out.at_ 1 _ rfl
    have c2 := HD2.out.at_ 2 _ rfl
    have c3 := HD2.out.at_ 3 _ rfl
    have c4 := HD2.out.at_ 4 _ rfl
    have c5 := HD2.out.at_ 5 _ rfl
    have cf0 := HD2.out.fz 0 (by simp)
    have cf1 := HD2.out.fz 1 (by simp)
    have cf2 := HD2.out.fz 2 (by simp)
    have cf3 := HD2.out.fz 3 (by simp)
    have cf4 := HD2.out.fz 4 (by simp)
    have cf5 := HD2.out.fz 5 (by simp)
    have clt := HD2.out.lt
    refine ty 2 14 hHeld ?_
    refine ty 3 15 hHeld ?_
    refine tn 4 16 hHeld ?_
    refine tn 5 17 hHeld ?_
    refine tn 6 18 hHeld ?_
    refine tn 7 19 hHeld ?_
    refine tn 8 20 hHeld ?_
    refine tn 9 21 hHeld ?_
    refine tn 10 22 hHeld ?_
    refine ty 11 23 hHeld ?_
    refine ty 12 24 hHeld ?_
    refine tn 13 25 hHeld ?_
    refine tn 14 26 hHeld ?_
    refine tn 15 27 hHeld ?_
    refine tn 16 28 hHeld ?_
    refine tn 17 29 hHeld ?_
    refine tn 18 30 hHeld ?_
    refine tn 19 31 hHeld ?_
    refine ty 20 32 hHeld ?_
    refine wpAnyH_done (by kernel_rfl) ?_ _
    clear hHeld hre HR0 HR1 HRf
    go_wp2
    refine bodyPost_ret (v := .tuple #[.agg #[.int .i64 0, .int .i64 0, .int .i64 0, .slice none 0 0, .string ⟨#[]⟩, .int .i64 0], .bool false, .int .i64 130]) (by simp [results, Tryz.results11, go_sem, *]) rfl ?_
    rw [HTR.out]
    refine TnL.no ?_ (HG2.out.set6 _ (by omega) _ _ _ _ _ _)
    exact (HK2.out.gb (gb_set6 _ _ _ _ _ _ _ _) HYn.out (by omega)).turn (fun b _ k => HYz.out b k) HZg.out
  | true =>
    have hfe : fe = 0 := HE.out
    subst hfe
    clear HE
    by_cases q1 : ¬ (f = l.wi)
    · have q1b : (f != l.wi) = true := bne_iff_ne.2 q1
      have hre : re = 130 := by rw [HRf.out, if_neg (fun k => q1 k.2.1)]
      have HTR := Lib.hid (HR0.out (by omega))
      rw [hre] at HTR
      have c0 := HD2.out.at_ 0 _ rfl
      have c1 := HD2.out.at_ 1 _ rfl
      have c2 := HD2.out.at_ 2 _ rfl
      have c3 := HD2.out.at_ 3 _ rfl
      have c4 := HD2.out.at_ 4 _ rfl
      have c5 := HD2.out.at_ 5 _ rfl
      have cf0 := HD2.out.fz 0 (by simp)
      have cf1 := HD2.out.fz 1 (by simp)
      have cf2 := HD2.out.fz 2 (by simp)
      have cf3 := HD2.out.fz 3 (by simp)
      have cf4 := HD2.out.fz 4 (by simp)
      have cf5 := HD2.out.fz 5 (by simp)
      have clt := HD2.out.lt
      clear q1
      refine ty 2 14 hHeld ?_
      refine ty 3 15 hHeld ?_
      refine ty 4 16 hHeld ?_
      refine ty 5 17 hHeld ?_
      refine ty 6 18 hHeld ?_
      refine ty 7 19 hHeld ?_
      refine ty 8 20 hHeld ?_
      refine ty 9 21 hHeld ?_
      refine ty 10 22 hHeld ?_
      refine ty 11 23 hHeld ?_
      refine ty 12 24 hHeld ?_
      refine tn 13 25 hHeld ?_
      refine tn 14 26 hHeld ?_
      refine tn 15 27 hHeld ?_
      refine tn 16 28 hHeld ?_
      refine tn 17 29 hHeld ?_
      refine tn 18 30 hHeld ?_
      refine tn 19 31 hHeld ?_
      refine ty 20 32 hHeld ?_
      refine wpAnyH_done (by kernel_rfl) ?_ _
      clear hHeld hre HR0 HR1 HRf
      go_wp2
      refine bodyPost_ret (v := .tuple #[.agg #[.int .i64 0, .int .i64 0, .int .i64 0, .slice none 0 0, .string ⟨#[]⟩, .int .i64 0], .bool false, .int .i64 130]) (by simp [results, Tryz.results11, go_sem, *]) rfl ?_
      rw [HTR.out]
      refine TnL.no ?_ (HG2.out.set6 _ (by omega) _ _ _ _ _ _)
      exact (HK2.out.gb (gb_set6 _ _ _ _ _ _ _ _) HYn.out (by omega)).turn (fun b _ k => HYz.out b k) HZg.out
    · have q1 := Classical.not_not.1 q1
      by_cases q2 : ¬ (t = l.me)
      · have q1b : (f != l.wi) = false := by simp [q1]
        have q2b : (t != l.me) = true := bne_iff_ne.2 q2
        have hre : re = 130 := by rw [HRf.out, if_neg (fun k => q2 k.2.2)]
        have HTR := Lib.hid (HR0.out (by omega))
        rw [hre] at HTR
        have c0 := HD2.out.at_ 0 _ rfl
        have c1 := HD2.out.at_ 1 _ rfl
        have c2 := HD2.out.at_ 2 _ rfl
        have c3 := HD2.out.at_ 3 _ rfl
        have c4 := HD2.out.at_ 4 _ rfl
        have c5 := HD2.out.at_ 5 _ rfl
        have cf0 := HD2.out.fz 0 (by simp)
        have cf1 := HD2.out.fz 1 (by simp)
        have cf2 := HD2.out.fz 2 (by simp)
        have cf3 := HD2.out.fz 3 (by simp)
        have cf4 := HD2.out.fz 4 (by simp)
        have cf5 := HD2.out.fz 5 (by simp)
        have clt := HD2.out.lt
        clear q1 q2
        refine ty 2 14 hHeld ?_
        refine ty 3 15 hHeld ?_
        refine ty 4 16 hHeld ?_
        refine ty 5 17 hHeld ?_
        refine ty 6 18 hHeld ?_
        refine ty 7 19 hHeld ?_
        refine ty 8 20 hHeld ?_
        refine ty 9 21 hHeld ?_
        refine ty 10 22 hHeld ?_
        refine ty 11 23 hHeld ?_
        refine ty 12 24 hHeld ?_
        refine ty 13 25 hHeld ?_
        refine ty 14 26 hHeld ?_
        refine ty 15 27 hHeld ?_
        refine ty 16 28 hHeld ?_
        refine ty 17 29 hHeld ?_
        refine ty 18 30 hHeld ?_
        refine ty 19 31 hHeld ?_
        refine ty 20 32 hHeld ?_
        refine wpAnyH_done (by kernel_rfl) ?_ _
        clear hHeld hre HR0 HR1 HRf
        go_wp2
        refine bodyPost_ret (v := .tuple #[.agg #[.int .i64 0, .int .i64 0, .int .i64 0, .slice none 0 0, .string ⟨#[]⟩, .int .i64 0], .bool false, .int .i64 130]) (by simp [results, Tryz.results11, go_sem, *]) rfl ?_
        rw [HTR.out]
        refine TnL.no ?_ (HG2.out.set6 _ (by omega) _ _ _ _ _ _)
        exact (HK2.out.gb (gb_set6 _ _ _ _ _ _ _ _) HYn.out (by omega)).turn (fun b _ k => HYz.out b k) HZg.out
      · have q2 := Classical.not_not.1 q2
        have q1b : (f != l.wi) = false := by simp [q1]
        have q2b : (t != l.me) = false := by simp [q2]
        have HRg : Hid (re = (if Ox.tmB now = true then (if ep < l.kn then 200 else 0) else 2)) := by show _ = _; rw [HRf.out, if_pos ⟨rfl, q1, q2⟩]
        clear q1 q2 HRf
        refine ty 2 14 hHeld ?_
        refine ty 3 15 hHeld ?_
        refine ty 4 16 hHeld ?_
        refine ty 5 17 hHeld ?_
        refine ty 6 18 hHeld ?_
        refine ty 7 19 hHeld ?_
        refine ty 8 20 hHeld ?_
        refine ty 9 21 hHeld ?_
        refine ty 10 22 hHeld ?_
        refine ty 11 23 hHeld ?_
        refine ty 12 24 hHeld ?_
        refine ty 13 25 hHeld ?_
        refine ty 14 26 hHeld ?_
        refine ty 15 27 hHeld ?_
        refine ty 16 28 hHeld ?_
        refine ty 17 29 hHeld ?_
        refine ty 18 30 hHeld ?_
        refine ty 19 31 hHeld ?_
        refine ty 20 32 hHeld ?_
        refine wpAnyH_done (by kernel_rfl) ?_ _
        clear hHeld
        by_cases qt : Ox.tmB now = true
        · have qt2 : 0 ≤ now ∧ now ≤ 1000000000 := by rw [HTm.out] at qt; simpa using qt
          have qn1 : ¬ now < 0 := by omega
          have qn2 : ¬ 1000000000 < now := by omega
          have HRh : Hid (re = if ep < l.kn then 200 else 0) := by show _ = _; rw [HRg.out, if_pos qt]
          clear qt qt2 HTm HRg
          have b2 := HB2.out.at_ 2 _ rfl
          have bl := HB2.out.lt
          obtain ⟨pa, pc, pE, pa2, pc2, hpk⟩ := HK2.out
          have p3 := hpk.cs.at_ 3 _ rfl
          have pl := hpk.cs.lt
          clear hpk
          by_cases q3 : ep < l.kn
          · have hre : re = 200 := by rw [HRh.out, if_pos q3]
            have HTR := Lib.hid (HR0.out (by omega))
            rw [hre] at HTR
            clear hre HR0 HR1 HRh
            go_wp2_with fail
            go_region
            all_goals
              obtain ⟨w3, hw3⟩ : ∃ x, x = World.drew w2 := ⟨_, rfl⟩
              rw [← hw3]
              have hg3 : Gr w2 w3 := by rw [hw3]; exact (Gr.refl _).drew
              have HK3 := Lib.hid (HK2.out.gr hg3)
              have HG3 := Lib.hid (HG2.out.gr hg3)
              have HB3 := Lib.hid (HB2.out.gr hg3)
              have HD3 := Lib.hid (HD2.out.gr hg3)
              have HF3 := Lib.hid (HF2.out.gr hg3)
              have HM3 := Lib.hid (HM2.out.gr hg3)
              clear hg3 hw3 b2 bl p3 pl
              clear HK2 HG2 HB2 HD2 HF2 HM2
              have c0 := HD3.out.at_ 0 _ rfl
              have c1 := HD3.out.at_ 1 _ rfl
              have c2 := HD3.out.at_ 2 _ rfl
              have c3 := HD3.out.at_ 3 _ rfl
              have c4 := HD3.out.at_ 4 _ rfl
              have c5 := HD3.out.at_ 5 _ rfl
              have cf0 := HD3.out.fz 0 (by simp)
              have cf1 := HD3.out.fz 1 (by simp)
              have cf2 := HD3.out.fz 2 (by simp)
              have cf3 := HD3.out.fz 3 (by simp)
              have cf4 := HD3.out.fz 4 (by simp)
              have cf5 := HD3.out.fz 5 (by simp)
              have clt := HD3.out.lt
              go_wp2
              refine bodyPost_ret (v := .tuple #[.agg #[.int .i64 0, .int .i64 0, .int .i64 0, .slice none 0 0, .string ⟨#[]⟩, .int .i64 0], .bool false, .int .i64 200]) (by simp [results, Tryz.results11, go_sem, *]) rfl ?_
              rw [HTR.out]
              refine TnL.no ?_ (HG3.out.set6 _ (by omega) _ _ _ _ _ _)
              exact (HK3.out.gb (gb_set6 _ _ _ _ _ _ _ _) HYn.out (by omega)).turn (fun b _ k => HYz.out b k) HZg.out
          · have hre : re = 0 := by rw [HRh.out, if_neg q3]
            have HTR := Lib.hid (HR1.out hre)
            clear hre HR0 HR1 HRh
            go_wp2_with fail
            go_region
            all_goals
              obtain ⟨w3, hw3⟩ : ∃ x, x = World.drew w2 := ⟨_, rfl⟩
              rw [← hw3]
              have hg3 : Gr w2 w3 := by rw [hw3]; exact (Gr.refl _).drew
              have HK3 := Lib.hid (HK2.out.gr hg3)
              have HG3 := Lib.hid (HG2.out.gr hg3)
              have HB3 := Lib.hid (HB2.out.gr hg3)
              have HD3 := Lib.hid (HD2.out.gr hg3)
              have HF3 := Lib.hid (HF2.out.gr hg3)
              have HM3 := Lib.hid (HM2.out.gr hg3)
              clear hg3 hw3 b2 bl p3 pl
              clear HK2 HG2 HB2 HD2 HF2 HM2
              have b2 := HB3.out.at_ 2 _ rfl
              have bl := HB3.out.lt
              obtain ⟨pa, pc, pE, pa2, pc2, hpk⟩ := HK3.out
              have p3 := hpk.cs.at_ 3 _ rfl
              have pl := hpk.cs.lt
              clear hpk
              by_cases qe : l.kn < ep
              · have HLq := Lib.hid (HLn.out qe)
                go_wp2
                go_region
                all_goals
                  obtain ⟨w4, hw4⟩ : ∃ x, x = World.drew w3 := ⟨_, rfl⟩
                  rw [← hw4]
                  have hg4 : Gr w3 w4 := by rw [hw4]; exact (Gr.refl _).drew
                  have HK4 := Lib.hid (HK3.out.gr hg4)
                  have HG4 := Lib.hid (HG3.out.gr hg4)
                  have HB4 := Lib.hid (HB3.out.gr hg4)
                  have HD4 := Lib.hid (HD3.out.gr hg4)
                  have HF4 := Lib.hid (HF3.out.gr hg4)
                  have HM4 := Lib.hid (HM3.out.gr hg4)
                  clear hg4 hw4 b2 bl p3 pl
                  clear HK3 HG3 HB3 HD3 HF3 HM3
                  obtain ⟨pa, pc, pE, pa2, pc2, hpk⟩ := HK4.out
                  have b2 := HB4.out.at_ 2 _ rfl
                  have bl := HB4.out.lt
                  have hk1 := hpk.know ep
                  have hk2 := hk1.window (wd_none _) (fun hn => absurd rfl hn)
                  dsimp only [List.length_nil] at hk2
                  have p3 := hpk.cs.at_ 3 _ rfl
                  have f3 := hpk.cs.fz 3 (by simp)
                  have p6 := hk1.cs.at_ 6 _ rfl
                  have f6 := hk1.cs.fz 6 (by simp)
                  have p7 := hk1.cs.at_ 7 _ rfl
                  have f7 := hk1.cs.fz 7 (by simp)
                  have p4 := hpk.cs.at_ 4 _ rfl
                  have pl := hpk.cs.lt
                  have hgk := ((gb_set g 3 w4 (.int .i64 ep)).trans (gb_set g 6 _ (.int .i64 0))).trans (gb_set g 7 _ (.slice none 0 0))
                  obtain ⟨w5, hw5⟩ : ∃ x, x = ((w4.setCell ⟨g, 3, none⟩ (.int .i64 ep)).setCell ⟨g, 6, none⟩ (.int .i64 0)).setCell ⟨g, 7, none⟩ (.slice none 0 0) := ⟨_, rfl⟩
                  rw [← hw5] at hk2 hgk
                  have HK5 := Lib.hid (show LkAt Y _ g _ from ⟨_, _, _, _, _, hk2⟩)
                  have HG5 := Lib.hid (HG4.out.trans hgk)
                  have HB5 := Lib.hid (GB.cs hgk HB4.out (by omega))
                  have HD5 := Lib.hid (GB.cs hgk HD4.out (by omega))
                  have HF5 := Lib.hid (HF4.out.gb hgk)
                  have HM5 := Lib.hid (HM4.out.gb hgk HYg.out)
                  have HPk := Lib.hid hk2
                  have HRn : Hid (∀ w', Gr w5 w' → Calls Tryz.prog 33 #[.slice pa pE.length pc, .int .i64 now] w' fun e w2 => BxR Y (Ox.anew okN l.it now) w' e w2) := fun w' k => by
                    have := rAnew_any pE now pa pc w' (hk2.rw.row.gr k) hk2.rw.ec hk2.rw.en
                    rw [hk2.rw.e] at this
                    exact this
                  unfold BxR at HRn
                  clear hpk hk1 hk2 hgk
                  clear HK4 HG4 HB4 HD4 HF4 HM4
                  have pl5 := HPk.out.cs.lt
                  go_wp2_with fail
                  rw [← hw5]
                  clear hw5 p3 f3 p6 f6 p7 f7 pl b2 bl
                  refine (HRn.out _ (Gr.refl _)).mono ?_
                  rintro e6 w6 ⟨ab, ac2, aF, rfl, hb, heF, hg6⟩
                  have hN := hb.pts HF5.out
                  have hk6 := HPk.out.gr hg6
                  have hk7 := hk6.items hN
                  have p4 := hk6.cs.at_ 4 _ rfl
                  have f4 := hk6.cs.fz 4 (by simp)
                  have p5 := hk7.cs.at_ 5 _ rfl
                  have f5 := hk7.cs.fz 5 (by simp)
                  have q4 := hk7.cs.at_ 4 _ rfl
                  have pl := hk6.cs.lt
                  have hlF : aF.length ≤ 12 := by rw [← its_len aF, heF]; exact HAl.out
                  have hw1 : IntKind.i64.wrap ((aF.length : Int) + 1) = (aF.length : Int) + 1 := by rw [IntKind.wrap_i64]; omega
                  have hk8 := hk7.next ((aF.length : Int) + 1)
                  have hgk := ((GB.ofGr (b := g) hg6).trans (gb_set g 4 w6 (.slice ab aF.length ac2))).trans (gb_set g 5 _ (.int .i64 ((aF.length : Int) + 1)))
                  obtain ⟨w7, hw7⟩ : ∃ x, x = (w6.setCell ⟨g, 4, none⟩ (.slice ab aF.length ac2)).setCell ⟨g, 5, none⟩ (.int .i64 ((aF.length : Int) + 1)) := ⟨_, rfl⟩
                  rw [← hw7] at hk8 hgk
                  have hlk : LkAt Y w7 g LN := by
                    rw [HLq.out, show ((Ox.anew okN l.it now).length : Int) = (aF.length : Int) by rw [← heF, its_len], ← heF]
                    exact ⟨_, _, _, _, _, hk8⟩
                  have HK7 := Lib.hid hlk
                  have HG7 := Lib.hid (HG5.out.trans hgk)
                  have HB7 := Lib.hid (GB.cs hgk HB5.out (by omega))
                  have HD7 := Lib.hid (GB.cs hgk HD5.out (by omega))
                  have HF7 := Lib.hid (HF5.out.gb hgk)
                  have HM7 := Lib.hid (HM5.out.gb hgk HYg.out)
                  clear hk6 hk7 hk8 hgk hlk hb heF hN hg6 HRn HPk HLq HLn HLs HAl hlF pl5
                  clear HK5 HG5 HB5 HD5 HF5 HM5
                  dsimp only at p4 p5 q4
                  have z4a := HB7.out.at_ 4 _ rfl
                  go_wp2_with fail
                  rw [← hw7]
                  clear hw7 p4 f4 p5 f5 q4 pl hw1 z4a
                  generalize LN = l1 at *
                  have z4 := HB7.out.at_ 4 _ rfl
                  have zl := HB7.out.lt
                  obtain ⟨pa, pc, pE, pa2, pc2, hpk⟩ := HK7.out
                  have p2 := hpk.cs.at_ 2 _ rfl
                  have pl := hpk.cs.lt
                  clear hpk
                  by_cases qa : ae = l1.ep
                  · have qb : (ae != l1.ep) = false := by simp [qa]
                    have HTR2 : Hid (TR = if s = 0 then (0, false, Lk.hit CX l1 ac) else Lk.lay (Lk.hit CX l1 ac) s) := by show _ = _; rw [HTR.out, if_pos qa]
                    clear qa HTR
                    go_wp2
                    go_region
                    all_goals
                      obtain ⟨w8, hw8⟩ : ∃ x, x = World.drew w7 := ⟨_, rfl⟩
                      rw [← hw8]
                      have hg8 : Gr w7 w8 := by rw [hw8]; exact (Gr.refl _).drew
                      have HK8 := Lib.hid (HK7.out.gr hg8)
                      have HG8 := Lib.hid (HG7.out.gr hg8)
                      have HB8 := Lib.hid (HB7.out.gr hg8)
                      have HD8 := Lib.hid (HD7.out.gr hg8)
                      have HF8 := Lib.hid (HF7.out.gr hg8)
                      have HM8 := Lib.hid (HM7.out.gr hg8)
                      clear hg8 hw8 z4 zl p2 pl
                      obtain ⟨pa, pc, pE, pa2, pc2, hpk⟩ := HK8.out
                      have HPk := Lib.hid hpk
                      have HAn1 : Hid (∀ w', Gr w8 w' → Calls Tryz.prog 34 #[.slice pa pE.length pc, .int .i64 ac] w' fun e w2 => BxR Y (Ox.ans okN l1.it ac) w' e w2) := fun w' k => by
                        have := rAnswered_any pE ac pa pc w' (hpk.rw.row.gr k) hpk.rw.ec hpk.rw.en
                        rw [hpk.rw.e] at this
                        exact this
                      unfold BxR at HAn1
                      have p4 := hpk.cs.at_ 4 _ rfl
                      have pf4 := hpk.cs.fz 4 (by simp)
                      have pl := hpk.cs.lt
                      clear hpk
                      have z5 := HB8.out.at_ 5 _ rfl
                      have zl := HB8.out.lt
                      go_wp2_with fail
                      refine wp_region_held_drew (S := (fun w' => w'.cell? ⟨w.heap.size, 5, none⟩ = some (.int .i64 ac))) (by kernel_rfl) (by first | with_reducible exact zd | with_reducible exact zc | exact Gr.keep (Gr.refl _).drew z5) (fun hHeld => ?_)
                      refine ty 0 94 hHeld ?_
                      refine ty 1 95 hHeld ?_
                      refine ty 2 96 hHeld ?_
                      refine ty 3 97 hHeld ?_
                      refine ty 5 99 hHeld ?_
                      refine ty 6 100 hHeld ?_
                      refine wpAnyH_ready (rs := [4]) (by kernel_rfl) (by simp) (AllReadyH.cons rfl (fun K hK => ?_) AllReadyH.nil)
                      go_simp
                      refine hK.out _ _ (by first | with_reducible exact zd | with_reducible exact zc | exact Gr.keep (Gr.refl _).drew z5) (fun hHeldN => ?_)
                      clear hHeld hK K
                      have hHeld := hHeldN
                      clear hHeldN
                      refine wpAnyH_ready (rs := [7]) (by kernel_rfl) (by simp) (AllReadyH.cons rfl (fun K hK => ?_) AllReadyH.nil)
                      go_simp
                      (go_at_call 34; refine (HAn1.out _ (Gr.refl _).drew).mono ?_; rintro e wn ⟨ab, ac2, aF, rfl, hb, heF, hgn⟩; have zc := hgn.keep (Gr.keep (Gr.refl _).drew z5); have p4n := hgn.keep (Gr.keep (Gr.refl _).drew p4); have pf4n := hgn.keepF (by simpa using pl) (Gr.keepF (Gr.refl _).drew pl pf4); have pln := Nat.lt_of_lt_of_le (show g < (World.drew w8).heap.size by simpa using pl) hgn.size; have zd := (World.cell?_setCell_far wn ⟨g, 4, none⟩ ⟨w.heap.size, 5, none⟩ (.slice ab aF.length ac2) (by simp; omega)).trans zc)
                      (try go_wp2_with fail)
                      refine hK.out _ _ (by first | with_reducible exact zd | with_reducible exact zc | exact Gr.keep (Gr.refl _).drew z5) (fun hHeldN => ?_)
                      clear hHeld hK K
                      have hHeld := hHeldN
                      clear hHeldN
                      refine ty 8 102 hHeld ?_
                      refine ty 9 103 hHeld ?_
                      refine wpAnyH_ready (rs := [10]) (by kernel_rfl) (by simp) (AllReadyH.cons rfl (fun K hK => ?_) AllReadyH.nil)
                      go_simp
                      refine hK.out _ _ (by first | with_reducible exact zd | with_reducible exact zc | exact Gr.keep (Gr.refl _).drew z5) (fun hHeldN => ?_)
                      clear hHeld hK K
                      have hHeld := hHeldN
                      clear hHeldN
                      refine wpAnyH_done (by kernel_rfl) ?_ _
                      have hgn2 : Gr w8 wn := (Gr.refl w8).drew.trans hgn
                      have hN := hb.pts (fun b hb2 => HF8.out b (by simpa using hb2))
                      have hpn := (HPk.out.gr hgn2).items hN
                      rw [heF] at hpn
                      have hgw := (GB.ofGr (b := g) hgn2).trans (gb_set g 4 wn (.slice ab aF.length ac2))
                      obtain ⟨w10, hw10⟩ : ∃ x, x = wn.setCell ⟨g, 4, none⟩ (.slice ab aF.length ac2) := ⟨_, rfl⟩
                      rw [← hw10] at hpn hgw ⊢
                      have hpn2 : LkAt Y _ g (Lk.hit CX l1 ac) := ⟨_, _, _, _, _, hpn⟩
                      have HK10 := Lib.hid hpn2
                      have HG10 := Lib.hid (HG8.out.trans hgw)
                      have HB10 := Lib.hid (GB.cs hgw HB8.out (by omega))
                      have HD10 := Lib.hid (GB.cs hgw HD8.out (by omega))
                      have HF10 := Lib.hid (HF8.out.gb hgw)
                      have HM10 := Lib.hid (HM8.out.gb hgw HYg.out)
                      clear hHeld hb heF hgn hgn2 zc zd z5 zl p4 pf4 pl p4n pf4n pln hN hpn hpn2 hgw HPk HAn1 hw10
                      clear HK8 HG8 HB8 HD8 HF8 HM8
                      have z3 := HB10.out.at_ 3 _ rfl
                      have zl := HB10.out.lt
                      generalize Lk.hit CX l1 ac = l2 at *
                      by_cases qs : s = 0
                      · have qsb : (s == 0) = true := by rw [beq_iff_eq]; exact qs
                        have HTR3 : Hid (TR = (0, false, l2)) := by show _ = _; rw [HTR2.out, if_pos qs]
                        have c0 := HD10.out.at_ 0 _ rfl
                        have c1 := HD10.out.at_ 1 _ rfl
                        have c2 := HD10.out.at_ 2 _ rfl
                        have c3 := HD10.out.at_ 3 _ rfl
                        have c4 := HD10.out.at_ 4 _ rfl
                        have c5 := HD10.out.at_ 5 _ rfl
                        have cf0 := HD10.out.fz 0 (by simp)
                        have cf1 := HD10.out.fz 1 (by simp)
                        have cf2 := HD10.out.fz 2 (by simp)
                        have cf3 := HD10.out.fz 3 (by simp)
                        have cf4 := HD10.out.fz 4 (by simp)
                        have cf5 := HD10.out.fz 5 (by simp)
                        have clt := HD10.out.lt
                        clear qs
                        go_wp2
                        refine bodyPost_ret (v := .tuple #[.agg #[.int .i64 0, .int .i64 0, .int .i64 0, .slice none 0 0, .string ⟨#[]⟩, .int .i64 0], .bool false, .int .i64 0]) (by simp [results, Tryz.results11, go_sem, *]) rfl ?_
                        rw [HTR3.out]
                        refine TnL.no ?_ (HG10.out.set6 _ (by omega) _ _ _ _ _ _)
                        exact (HK10.out.gb (gb_set6 _ _ _ _ _ _ _ _) HYn.out (by omega)).turn (fun b _ k => HYz.out b k) HZg.out
                      · have qsb : (s == 0) = false := by rw [beq_eq_false_iff_ne]; exact qs
                        have HTR3 : Hid (TR = if (Wn.take l2.wn s).2.2 = 0 then (0, (Wn.take l2.wn s).2.1, { l2 with wn := (Wn.take l2.wn s).1, ow := true }) else ((Wn.take l2.wn s).2.2, false, { l2 with ow := true })) := by show _ = _; rw [HTR2.out, if_neg qs]; rfl
                        clear qs HTR2
                        obtain ⟨pa, pc, pE, pa2, pc2, hpk⟩ := HK10.out
                        have p8 := hpk.cs.at_ 8 _ rfl
                        have f8 := hpk.cs.fz 8 (by simp)
                        have pl := hpk.cs.lt
                        have hp8 := hpk.owe true
                        clear hpk
                        have hgo := gb_set g 8 w10 (.bool true)
                        obtain ⟨w11, hw11⟩ : ∃ x, x = w10.setCell ⟨g, 8, none⟩ (.bool true) := ⟨_, rfl⟩
                        rw [← hw11] at hp8 hgo
                        have HK11 := Lib.hid (show LkAt Y _ g _ from ⟨_, _, _, _, _, hp8⟩)
                        have HG11 := Lib.hid (HG10.out.trans hgo)
                        have HB11 := Lib.hid (GB.cs hgo HB10.out (by omega))
                        have HD11 := Lib.hid (GB.cs hgo HD10.out (by omega))
                        have HF11 := Lib.hid (HF10.out.gb hgo)
                        have HM11 := Lib.hid (HM10.out.gb hgo HYg.out)
                        have HPe := Lib.hid hp8
                        clear hgo hp8
                        clear HK10 HG10 HB10 HD10 HF10 HM10
                        have HTk : Hid (∀ w', Gr w11 w' → Calls Tryz.prog 35 #[wdV l2.wn.low pa2 l2.wn.seen.length pc2, .int .i64 s] w' fun e w2 => RkR pa2 w' w2 e (Wn.take l2.wn s)) := fun w' k => rtake_any l2.wn s pa2 pc2 w' (HPe.out.rw.wd.gr k)
                        unfold RkR at HTk
                        have HNx : Hid ((Wn.take l2.wn s).1.seen ≠ [] → ∀ p, pa2 = some p → ((Wn.take l2.wn s).2.1 = false ∧ (Wn.take l2.wn s).2.2 = 0) → p.block < w11.heap.size ∧ Y p.block) := by
                          intro hn p ep hh
                          rw [take_same hh] at hn
                          have hn2 : ({ l2 with ow := true } : St Nx).wn.seen ≠ [] := hn
                          refine ⟨?_, HPe.out.rw.nb hn2 p ep⟩
                          obtain ⟨b, o, e5, hb5, _⟩ := HPe.out.rw.wd.row 0 (List.length_pos_iff.2 hn2)
                          rw [ep] at e5; cases e5; exact hb5
                        have p6 := HPe.out.cs.at_ 6 _ rfl
                        have p7 := HPe.out.cs.at_ 7 _ rfl
                        have pl2 := HPe.out.cs.lt
                        have z3b := HB11.out.at_ 3 _ rfl
                        have zlb := HB11.out.lt
                        dsimp only at p6 p7
                        generalize Wn.take l2.wn s = R at *
                        go_upto_region 19 with fail
                        rw [← hw11]
                        clear hw11 p8 f8 pl z3 zl HPe
                        obtain ⟨lo, hlo⟩ : ∃ x, x = l2.wn.low := ⟨_, rfl⟩
                        obtain ⟨ls, hls⟩ : ∃ x, x = l2.wn.seen.length := ⟨_, rfl⟩
                        rw [← hlo] at p6 HTk
                        rw [← hls] at p7 HTk
                        clear hlo hls
                        go_cut [9, 10, 11] from 111 to 121 (fun p f c wx => f = .bool R.2.1 ∧ c = .int .i64 R.2.2 ∧ AlJ pa2 (R.2.1 = false ∧ R.2.2 = 0) w11 wx p R.1)
                        case first =>
                          go_region_held3 (fun w' => Gr w11 w' ∧ w'.cell? ⟨g, 6, none⟩ = some (.int .i64 lo) ∧ w'.cell? ⟨g, 7, none⟩ = some (.slice pa2 ls pc2) ∧ w'.cell? ⟨w.heap.size, 3, none⟩ = some (.int .i64 s))
                            ((exact ⟨(by (with_reducible repeat' (first | exact Gr.refl _ | refine Gr.set ?_ _ ?_ _ | refine Gr.alloc ?_ | refine Gr.drew ?_ | refine Gr.trans ?_ (by assumption))) <;> (first | (simp; done) | (simp; omega) | omega)), Gr.keep (by (with_reducible repeat' (first | exact Gr.refl _ | refine Gr.set ?_ _ ?_ _ | refine Gr.alloc ?_ | refine Gr.drew ?_ | refine Gr.trans ?_ (by assumption))) <;> (first | (simp; done) | (simp; omega) | omega)) p6, Gr.keep (by (with_reducible repeat' (first | exact Gr.refl _ | refine Gr.set ?_ _ ?_ _ | refine Gr.alloc ?_ | refine Gr.drew ?_ | refine Gr.trans ?_ (by assumption))) <;> (first | (simp; done) | (simp; omega) | omega)) p7, Gr.keep (by (with_reducible repeat' (first | exact Gr.refl _ | refine Gr.set ?_ _ ?_ _ | refine Gr.alloc ?_ | refine Gr.drew ?_ | refine Gr.trans ?_ (by assumption))) <;> (first | (simp; done) | (simp; omega) | omega)) z3b⟩))
                            ((first
                              | (go_at_call 35; refine (HTk.out _ (by (with_reducible repeat' (first | exact Gr.refl _ | refine Gr.set ?_ _ ?_ _ | refine Gr.alloc ?_ | refine Gr.drew ?_ | refine Gr.trans ?_ (by assumption))) <;> (first | (simp; done) | (simp; omega) | omega))).mono ?_; rintro e wn ⟨ab, ac2, rfl, hwd, hnb, hgn⟩; have hbz := ((Bx2.new w11 (.int .i64 0) (.slice none 0 0) 56 _ rfl).gr (Gr.refl _).drew).gr hgn; obtain ⟨x0, x1, xf0, xf1, x6⟩ := hbz)
                              | (go_at_call 35; refine (HTk.out _ (by (with_reducible repeat' (first | exact Gr.refl _ | refine Gr.set ?_ _ ?_ _ | refine Gr.alloc ?_ | refine Gr.drew ?_ | refine Gr.trans ?_ (by assumption))) <;> (first | (simp; done) | (simp; omega) | omega))).mono ?_; rintro e wn ⟨ab, ac2, rfl, hwd, hnb, hgn⟩)))
                          · go_wp2_with fail
                            go_meet
                            exact ⟨rfl, rfl, alj_last ((Gr.refl w11).drew.trans hgn) hwd hnb _⟩
                          · go_wp2_with fail
                            go_meet
                            exact ⟨rfl, rfl, alj_first (Nat.le_refl _) ((Gr.refl w11).alloc.drew.trans hgn) ⟨x0, x1, xf0, xf1, x6⟩ hwd (fun p ep => by rcases hnb p ep with h | h; exact Or.inl h; exact Or.inr (by simp at h; omega)) (fun hn p ep => by rcases hnb p ep with h | h; (have := (HNx.out hn p h.1 h.2).1; omega); (simp at h; omega))⟩
                        case rest =>
                          obtain ⟨rfl, rfl, gx, ab, ac2, rfl, hA⟩ := hcut
                          have hgA := hA.gr
                          have HNb : Hid (R.1.seen ≠ [] → ∀ p, ab = some p → Y p.block) := fun hn p ep => by
                            rcases hA.ne p ep with ⟨h1, h2⟩ | h1
                            · exact (HNx.out hn p h1 h2).2
                            · exact HF11.out p.block h1
                          have HKc := Lib.hid (HK11.out.gr hgA)
                          have HGc := Lib.hid (HG11.out.gr hgA)
                          have HBc := Lib.hid (HB11.out.gr hgA)
                          have HDc := Lib.hid (HD11.out.gr hgA)
                          have HFc := Lib.hid (HF11.out.gr hgA)
                          have HMc := Lib.hid (HM11.out.gr hgA)
                          clear HK11 HG11 HB11 HD11 HF11 HM11
                          obtain ⟨x0, x1, _, _, xl⟩ := hA.bx
                          have HWd := Lib.hid hA.wd
                          clear hA hgA HNx HTk p6 p7 pl2 z3b zlb
                          obtain ⟨pa, pc, pE, pa2, pc2, hpk⟩ := HKc.out
                          by_cases hz : R.2.2 = 0
                          · have hzb2 : (R.2.2 != 0) = false := by simp [hz]
                            have HTR4 : Hid (TR = (0, R.2.1, { l2 with wn := R.1, ow := true })) := by show _ = _; rw [HTR3.out, if_pos hz]
                            have hp9 := hpk.window HWd.out HNb.out
                            have p6 := hpk.cs.at_ 6 _ rfl
                            have pf6 := hpk.cs.fz 6 (by simp)
                            have p7 := hpk.cs.at_ 7 _ rfl
                            have pf7 := hpk.cs.fz 7 (by simp)
                            have pl := hpk.cs.lt
                            have hgo := (gb_set g 6 wc (.int .i64 R.1.low)).trans (gb_set g 7 _ (.slice ab R.1.seen.length ac2))
                            dsimp only at p6 p7
                            have HKd := Lib.hid (show LkAt Y _ g { l2 with wn := R.1, ow := true } from ⟨_, _, _, _, _, hp9⟩)
                            have HGd := Lib.hid (HGc.out.trans hgo)
                            have HBd := Lib.hid (GB.cs hgo HBc.out (by omega))
                            have HDd := Lib.hid (GB.cs hgo HDc.out (by omega))
                            have HFd := Lib.hid (HFc.out.gb hgo)
                            have HMd := Lib.hid (HMc.out.gb hgo HYg.out)
                            clear hz hp9 hgo hpk HTR3
                            clear HKc HGc HBc HDc HFc HMc
                            cases hfr : R.2.1 with
                            | false =>
                              have HTR5 : Hid (TR = (0, false, { l2 with wn := R.1, ow := true })) := by show _ = _; rw [HTR4.out, hfr]
                              have c0 := HDd.out.at_ 0 _ rfl
                              have c1 := HDd.out.at_ 1 _ rfl
                              have c2 := HDd.out.at_ 2 _ rfl
                              have c3 := HDd.out.at_ 3 _ rfl
                              have c4 := HDd.out.at_ 4 _ rfl
                              have c5 := HDd.out.at_ 5 _ rfl
                              have cf0 := HDd.out.fz 0 (by simp)
                              have cf1 := HDd.out.fz 1 (by simp)
                              have cf2 := HDd.out.fz 2 (by simp)
                              have cf3 := HDd.out.fz 3 (by simp)
                              have cf4 := HDd.out.fz 4 (by simp)
                              have cf5 := HDd.out.fz 5 (by simp)
                              have clt := HDd.out.lt
                              go_wp2
                              refine bodyPost_ret (v := .tuple #[.agg #[.int .i64 0, .int .i64 0, .int .i64 0, .slice none 0 0, .string ⟨#[]⟩, .int .i64 0], .bool false, .int .i64 0]) (by simp [results, Tryz.results11, go_sem, *]) rfl ?_
                              rw [HTR5.out]
                              refine TnL.no ?_ (HGd.out.set6 _ (by omega) _ _ _ _ _ _)
                              exact (HKd.out.gb (gb_set6 _ _ _ _ _ _ _ _) HYn.out (by omega)).turn (fun b _ k => HYz.out b k) HZg.out
                            | true =>
                              have HTR5 : Hid (TR = (0, true, { l2 with wn := R.1, ow := true })) := by show _ = _; rw [HTR4.out, hfr]
                              have c0 := HDd.out.at_ 0 _ rfl
                              have c1 := HDd.out.at_ 1 _ rfl
                              have c2 := HDd.out.at_ 2 _ rfl
                              have c3 := HDd.out.at_ 3 _ rfl
                              have c4 := HDd.out.at_ 4 _ rfl
                              have c5 := HDd.out.at_ 5 _ rfl
                              have cf0 := HDd.out.fz 0 (by simp)
                              have cf1 := HDd.out.fz 1 (by simp)
                              have cf2 := HDd.out.fz 2 (by simp)
                              have cf3 := HDd.out.fz 3 (by simp)
                              have cf4 := HDd.out.fz 4 (by simp)
                              have cf5 := HDd.out.fz 5 (by simp)
                              have clt := HDd.out.lt
                              have z0 := HBd.out.at_ 0 _ rfl
                              have z1 := HBd.out.at_ 1 _ rfl
                              have z2 := HBd.out.at_ 2 _ rfl
                              have z3 := HBd.out.at_ 3 _ rfl
                              have z4 := HBd.out.at_ 4 _ rfl
                              have z5 := HBd.out.at_ 5 _ rfl
                              have z6 := HBd.out.at_ 6 _ rfl
                              have z7 := HBd.out.at_ 7 _ rfl
                              have z8 := HBd.out.at_ 8 _ rfl
                              have z9 := HBd.out.at_ 9 _ rfl
                              have z10 := HBd.out.at_ 10 _ rfl
                              have z11 := HBd.out.at_ 11 _ rfl
                              have zf0 := HBd.out.fz 0 (by simp)
                              have zf1 := HBd.out.fz 1 (by simp)
                              have zf2 := HBd.out.fz 2 (by simp)
                              have zf3 := HBd.out.fz 3 (by simp)
                              have zf4 := HBd.out.fz 4 (by simp)
                              have zf5 := HBd.out.fz 5 (by simp)
                              have zf6 := HBd.out.fz 6 (by simp)
                              have zf7 := HBd.out.fz 7 (by simp)
                              have zf8 := HBd.out.fz 8 (by simp)
                              have zf9 := HBd.out.fz 9 (by simp)
                              have zf10 := HBd.out.fz 10 (by simp)
                              have zf11 := HBd.out.fz 11 (by simp)
                              have zlt := HBd.out.lt
                              go_wp2
                              refine bodyPost_ret (v := .tuple #[.agg #[.int .i64 k0, .int .i64 r, .int .i64 n, .slice ad ll cap, .string d, .int .i64 y], .bool true, .int .i64 0]) (by simp [results, Tryz.results11, go_sem, *]) rfl ?_
                              rw [HTR5.out]
                              refine ⟨ad, cap, by rw [← HLl.out]; rfl, ?_, ?_, HGd.out.set6 _ (by omega) _ _ _ _ _ _⟩
                              · exact (HMd.out.gb (gb_set6 _ _ _ _ _ _ _ _) HYn.out).turn (fun b _ k => HYz.out b k)
                              · exact (HKd.out.gb (gb_set6 _ _ _ _ _ _ _ _) HYn.out (by omega)).turn (fun b _ k => HYz.out b k) HZg.out
                          · have hzb2 : (R.2.2 != 0) = true := bne_iff_ne.2 hz
                            have HTR4 : Hid (TR = (R.2.2, false, { l2 with ow := true })) := by show _ = _; rw [HTR3.out, if_neg hz]
                            clear hz hpk
                            have c0 := HDc.out.at_ 0 _ rfl
                            have c1 := HDc.out.at_ 1 _ rfl
                            have c2 := HDc.out.at_ 2 _ rfl
                            have c3 := HDc.out.at_ 3 _ rfl
                            have c4 := HDc.out.at_ 4 _ rfl
                            have c5 := HDc.out.at_ 5 _ rfl
                            have cf0 := HDc.out.fz 0 (by simp)
                            have cf1 := HDc.out.fz 1 (by simp)
                            have cf2 := HDc.out.fz 2 (by simp)
                            have cf3 := HDc.out.fz 3 (by simp)
                            have cf4 := HDc.out.fz 4 (by simp)
                            have cf5 := HDc.out.fz 5 (by simp)
                            have clt := HDc.out.lt
                            go_wp2
                            refine bodyPost_ret (v := .tuple #[.agg #[.int .i64 0, .int .i64 0, .int .i64 0, .slice none 0 0, .string ⟨#[]⟩, .int .i64 0], .bool false, .int .i64 R.2.2]) (by simp [results, Tryz.results11, go_sem, *]) rfl ?_
                            rw [HTR4.out]
                            refine TnL.no ?_ (HGc.out.set6 _ (by omega) _ _ _ _ _ _)
                            exact (HKc.out.gb (gb_set6 _ _ _ _ _ _ _ _) HYn.out (by omega)).turn (fun b _ k => HYz.out b k) HZg.out
                  · have qb : (ae != l1.ep) = true := bne_iff_ne.2 qa
                    have HTR2 : Hid (TR = (200, false, { l1 with ow := true })) := by show _ = _; rw [HTR.out, if_neg qa]
                    clear qa HTR
                    go_wp2
                    go_region
                    all_goals
                      obtain ⟨w8, hw8⟩ : ∃ x, x = World.drew w7 := ⟨_, rfl⟩
                      rw [← hw8]
                      have hg8 : Gr w7 w8 := by rw [hw8]; exact (Gr.refl _).drew
                      have HK8 := Lib.hid (HK7.out.gr hg8)
                      have HG8 := Lib.hid (HG7.out.gr hg8)
                      have HB8 := Lib.hid (HB7.out.gr hg8)
                      have HD8 := Lib.hid (HD7.out.gr hg8)
                      have HF8 := Lib.hid (HF7.out.gr hg8)
                      have HM8 := Lib.hid (HM7.out.gr hg8)
                      clear hg8 hw8 z4 zl p2 pl
                      obtain ⟨pa, pc, pE, pa2, pc2, hpk⟩ := HK8.out
                      have p8 := hpk.cs.at_ 8 _ rfl
                      have f8 := hpk.cs.fz 8 (by simp)
                      have pl := hpk.cs.lt
                      have hp8 := hpk.owe true
                      clear hpk
                      have HK9 := Lib.hid (show LkAt _ _ g _ from ⟨_, _, _, _, _, hp8⟩)
                      have HG9 := Lib.hid (HG8.out.trans (gb_set g 8 w8 (.bool true)))
                      have HB9 := Lib.hid (GB.cs (gb_set g 8 w8 (.bool true)) HB8.out (by omega))
                      have HD9 := Lib.hid (GB.cs (gb_set g 8 w8 (.bool true)) HD8.out (by omega))
                      have HF9 := Lib.hid (HF8.out.gb (gb_set g 8 w8 (.bool true)))
                      have HM9 := Lib.hid (HM8.out.gb (gb_set g 8 w8 (.bool true)) HYg.out)
                      clear hp8
                      have c0 := HD9.out.at_ 0 _ rfl
                      have c1 := HD9.out.at_ 1 _ rfl
                      have c2 := HD9.out.at_ 2 _ rfl
                      have c3 := HD9.out.at_ 3 _ rfl
                      have c4 := HD9.out.at_ 4 _ rfl
                      have c5 := HD9.out.at_ 5 _ rfl
                      have cf0 := HD9.out.fz 0 (by simp)
                      have cf1 := HD9.out.fz 1 (by simp)
                      have cf2 := HD9.out.fz 2 (by simp)
                      have cf3 := HD9.out.fz 3 (by simp)
                      have cf4 := HD9.out.fz 4 (by simp)
                      have cf5 := HD9.out.fz 5 (by simp)
                      have clt := HD9.out.lt
                      go_wp2
                      refine bodyPost_ret (v := .tuple #[.agg #[.int .i64 0, .int .i64 0, .int .i64 0, .slice none 0 0, .string ⟨#[]⟩, .int .i64 0], .bool false, .int .i64 200]) (by simp [results, Tryz.results11, go_sem, *]) rfl ?_
                      rw [HTR2.out]
                      refine TnL.no ?_ (HG9.out.set6 _ (by omega) _ _ _ _ _ _)
                      exact (HK9.out.gb (gb_set6 _ _ _ _ _ _ _ _) HYn.out (by omega)).turn (fun b _ k => HYz.out b k) HZg.out
              · have hls := HLs.out (by omega)
                rw [hls] at HTR
                clear HLn HLs hls HAl
                go_wp2
                go_region
                all_goals
                  obtain ⟨w4, hw4⟩ : ∃ x, x = World.drew w3 := ⟨_, rfl⟩
                  rw [← hw4]
                  have hg4 : Gr w3 w4 := by rw [hw4]; exact (Gr.refl _).drew
                  have HK4 := Lib.hid (HK3.out.gr hg4)
                  have HG4 := Lib.hid (HG3.out.gr hg4)
                  have HB4 := Lib.hid (HB3.out.gr hg4)
                  have HD4 := Lib.hid (HD3.out.gr hg4)
                  have HF4 := Lib.hid (HF3.out.gr hg4)
                  have HM4 := Lib.hid (HM3.out.gr hg4)
                  clear hg4 hw4 b2 bl p3 pl
                  clear HK3 HG3 HB3 HD3 HF3 HM3
                  have HEq : Hid (l = l) := rfl
                  generalize l = l1 at *
                  have z4 := HB4.out.at_ 4 _ rfl
                  have zl := HB4.out.lt
                  obtain ⟨pa, pc, pE, pa2, pc2, hpk⟩ := HK4.out
                  have p2 := hpk.cs.at_ 2 _ rfl
                  have pl := hpk.cs.lt
                  clear hpk
                  by_cases qa : ae = l1.ep
                  · have qb : (ae != l1.ep) = false := by simp [qa]
                    have HTR2 : Hid (TR = if s = 0 then (0, false, Lk.hit CX l1 ac) else Lk.lay (Lk.hit CX l1 ac) s) := by show _ = _; rw [HTR.out, if_pos qa]
                    clear qa HTR
                    go_wp2
                    go_region
                    all_goals
                      obtain ⟨w5, hw5⟩ : ∃ x, x = World.drew w4 := ⟨_, rfl⟩
                      rw [← hw5]
                      have hg5 : Gr w4 w5 := by rw [hw5]; exact (Gr.refl _).drew
                      have HK5 := Lib.hid (HK4.out.gr hg5)
                      have HG5 := Lib.hid (HG4.out.gr hg5)
                      have HB5 := Lib.hid (HB4.out.gr hg5)
                      have HD5 := Lib.hid (HD4.out.gr hg5)
                      have HF5 := Lib.hid (HF4.out.gr hg5)
                      have HM5 := Lib.hid (HM4.out.gr hg5)
                      clear hg5 hw5 z4 zl p2 pl
                      obtain ⟨pa, pc, pE, pa2, pc2, hpk⟩ := HK5.out
                      have HPk := Lib.hid hpk
                      have HAn1 : Hid (∀ w', Gr w5 w' → Calls Tryz.prog 34 #[.slice pa pE.length pc, .int .i64 ac] w' fun e w2 => BxR Y (Ox.ans okN l1.it ac) w' e w2) := fun w' k => by
                        have := rAnswered_any pE ac pa pc w' (hpk.rw.row.gr k) hpk.rw.ec hpk.rw.en
                        rw [hpk.rw.e] at this
                        exact this
                      unfold BxR at HAn1
                      have p4 := hpk.cs.at_ 4 _ rfl
                      have pf4 := hpk.cs.fz 4 (by simp)
                      have pl := hpk.cs.lt
                      clear hpk
                      have z5 := HB5.out.at_ 5 _ rfl
                      have zl := HB5.out.lt
                      go_wp2_with fail
                      refine wp_region_held_drew (S := (fun w' => w'.cell? ⟨w.heap.size, 5, none⟩ = some (.int .i64 ac))) (by kernel_rfl) (by first | with_reducible exact zd | with_reducible exact zc | exact Gr.keep (Gr.refl _).drew z5) (fun hHeld => ?_)
                      refine ty 0 94 hHeld ?_
                      refine ty 1 95 hHeld ?_
                      refine ty 2 96 hHeld ?_
                      refine ty 3 97 hHeld ?_
                      refine ty 5 99 hHeld ?_
                      refine ty 6 100 hHeld ?_
                      refine wpAnyH_ready (rs := [4]) (by kernel_rfl) (by simp) (AllReadyH.cons rfl (fun K hK => ?_) AllReadyH.nil)
                      go_simp
                      refine hK.out _ _ (by first | with_reducible exact zd | with_reducible exact zc | exact Gr.keep (Gr.refl _).drew z5) (fun hHeldN => ?_)
                      clear hHeld hK K
                      have hHeld := hHeldN
                      clear hHeldN
                      refine wpAnyH_ready (rs := [7]) (by kernel_rfl) (by simp) (AllReadyH.cons rfl (fun K hK => ?_) AllReadyH.nil)
                      go_simp
                      (go_at_call 34; refine (HAn1.out _ (Gr.refl _).drew).mono ?_; rintro e wn ⟨ab, ac2, aF, rfl, hb, heF, hgn⟩; have zc := hgn.keep (Gr.keep (Gr.refl _).drew z5); have p4n := hgn.keep (Gr.keep (Gr.refl _).drew p4); have pf4n := hgn.keepF (by simpa using pl) (Gr.keepF (Gr.refl _).drew pl pf4); have pln := Nat.lt_of_lt_of_le (show g < (World.drew w5).heap.size by simpa using pl) hgn.size; have zd := (World.cell?_setCell_far wn ⟨g, 4, none⟩ ⟨w.heap.size, 5, none⟩ (.slice ab aF.length ac2) (by simp; omega)).trans zc)
                      (try go_wp2_with fail)
                      refine hK.out _ _ (by first | with_reducible exact zd | with_reducible exact zc | exact Gr.keep (Gr.refl _).drew z5) (fun hHeldN => ?_)
                      clear hHeld hK K
                      have hHeld := hHeldN
                      clear hHeldN
                      refine ty 8 102 hHeld ?_
                      refine ty 9 103 hHeld ?_
                      refine wpAnyH_ready (rs := [10]) (by kernel_rfl) (by simp) (AllReadyH.cons rfl (fun K hK => ?_) AllReadyH.nil)
                      go_simp
                      refine hK.out _ _ (by first | with_reducible exact zd | with_reducible exact zc | exact Gr.keep (Gr.refl _).drew z5) (fun hHeldN => ?_)
                      clear hHeld hK K
                      have hHeld := hHeldN
                      clear hHeldN
                      refine wpAnyH_done (by kernel_rfl) ?_ _
                      have hgn2 : Gr w5 wn := (Gr.refl w5).drew.trans hgn
                      have hN := hb.pts (fun b hb2 => HF5.out b (by simpa using hb2))
                      have hpn := (HPk.out.gr hgn2).items hN
                      rw [heF] at hpn
                      have hgw := (GB.ofGr (b := g) hgn2).trans (gb_set g 4 wn (.slice ab aF.length ac2))
                      obtain ⟨w7, hw7⟩ : ∃ x, x = wn.setCell ⟨g, 4, none⟩ (.slice ab aF.length ac2) := ⟨_, rfl⟩
                      rw [← hw7] at hpn hgw ⊢
                      have hpn2 : LkAt Y _ g (Lk.hit CX l1 ac) := ⟨_, _, _, _, _, hpn⟩
                      have HK7 := Lib.hid hpn2
                      have HG7 := Lib.hid (HG5.out.trans hgw)
                      have HB7 := Lib.hid (GB.cs hgw HB5.out (by omega))
                      have HD7 := Lib.hid (GB.cs hgw HD5.out (by omega))
                      have HF7 := Lib.hid (HF5.out.gb hgw)
                      have HM7 := Lib.hid (HM5.out.gb hgw HYg.out)
                      clear hHeld hb heF hgn hgn2 zc zd z5 zl p4 pf4 pl p4n pf4n pln hN hpn hpn2 hgw HPk HAn1 hw7
                      clear HK5 HG5 HB5 HD5 HF5 HM5
                      have z3 := HB7.out.at_ 3 _ rfl
                      have zl := HB7.out.lt
                      generalize Lk.hit CX l1 ac = l2 at *
                      by_cases qs : s = 0
                      · have qsb : (s == 0) = true := by rw [beq_iff_eq]; exact qs
                        have HTR3 : Hid (TR = (0, false, l2)) := by show _ = _; rw [HTR2.out, if_pos qs]
                        have c0 := HD7.out.at_ 0 _ rfl
                        have c1 := HD7.out.at_ 1 _ rfl
                        have c2 := HD7.out.at_ 2 _ rfl
                        have c3 := HD7.out.at_ 3 _ rfl
                        have c4 := HD7.out.at_ 4 _ rfl
                        have c5 := HD7.out.at_ 5 _ rfl
                        have cf0 := HD7.out.fz 0 (by simp)
                        have cf1 := HD7.out.fz 1 (by simp)
                        have cf2 := HD7.out.fz 2 (by simp)
                        have cf3 := HD7.out.fz 3 (by simp)
                        have cf4 := HD7.out.fz 4 (by simp)
                        have cf5 := HD7.out.fz 5 (by simp)
                        have clt := HD7.out.lt
                        clear qs
                        go_wp2
                        refine bodyPost_ret (v := .tuple #[.agg #[.int .i64 0, .int .i64 0, .int .i64 0, .slice none 0 0, .string ⟨#[]⟩, .int .i64 0], .bool false, .int .i64 0]) (by simp [results, Tryz.results11, go_sem, *]) rfl ?_
                        rw [HTR3.out]
                        refine TnL.no ?_ (HG7.out.set6 _ (by omega) _ _ _ _ _ _)
                        exact (HK7.out.gb (gb_set6 _ _ _ _ _ _ _ _) HYn.out (by omega)).turn (fun b _ k => HYz.out b k) HZg.out
                      · have qsb : (s == 0) = false := by rw [beq_eq_false_iff_ne]; exact qs
                        have HTR3 : Hid (TR = if (Wn.take l2.wn s).2.2 = 0 then (0, (Wn.take l2.wn s).2.1, { l2 with wn := (Wn.take l2.wn s).1, ow := true }) else ((Wn.take l2.wn s).2.2, false, { l2 with ow := true })) := by show _ = _; rw [HTR2.out, if_neg qs]; rfl
                        clear qs HTR2
                        obtain ⟨pa, pc, pE, pa2, pc2, hpk⟩ := HK7.out
                        have p8 := hpk.cs.at_ 8 _ rfl
                        have f8 := hpk.cs.fz 8 (by simp)
                        have pl := hpk.cs.lt
                        have hp8 := hpk.owe true
                        clear hpk
                        have hgo := gb_set g 8 w7 (.bool true)
                        obtain ⟨w8, hw8⟩ : ∃ x, x = w7.setCell ⟨g, 8, none⟩ (.bool true) := ⟨_, rfl⟩
                        rw [← hw8] at hp8 hgo
                        have HK8 := Lib.hid (show LkAt Y _ g _ from ⟨_, _, _, _, _, hp8⟩)
                        have HG8 := Lib.hid (HG7.out.trans hgo)
                        have HB8 := Lib.hid (GB.cs hgo HB7.out (by omega))
                        have HD8 := Lib.hid (GB.cs hgo HD7.out (by omega))
                        have HF8 := Lib.hid (HF7.out.gb hgo)
                        have HM8 := Lib.hid (HM7.out.gb hgo HYg.out)
                        have HPe := Lib.hid hp8
                        clear hgo hp8
                        clear HK7 HG7 HB7 HD7 HF7 HM7
                        have HTk : Hid (∀ w', Gr w8 w' → Calls Tryz.prog 35 #[wdV l2.wn.low pa2 l2.wn.seen.length pc2, .int .i64 s] w' fun e w2 => RkR pa2 w' w2 e (Wn.take l2.wn s)) := fun w' k => rtake_any l2.wn s pa2 pc2 w' (HPe.out.rw.wd.gr k)
                        unfold RkR at HTk
                        have HNx : Hid ((Wn.take l2.wn s).1.seen ≠ [] → ∀ p, pa2 = some p → ((Wn.take l2.wn s).2.1 = false ∧ (Wn.take l2.wn s).2.2 = 0) → p.block < w8.heap.size ∧ Y p.block) := by
                          intro hn p ep hh
                          rw [take_same hh] at hn
                          have hn2 : ({ l2 with ow := true } : St Nx).wn.seen ≠ [] := hn
                          refine ⟨?_, HPe.out.rw.nb hn2 p ep⟩
                          obtain ⟨b, o, e5, hb5, _⟩ := HPe.out.rw.wd.row 0 (List.length_pos_iff.2 hn2)
                          rw [ep] at e5; cases e5; exact hb5
                        have p6 := HPe.out.cs.at_ 6 _ rfl
                        have p7 := HPe.out.cs.at_ 7 _ rfl
                        have pl2 := HPe.out.cs.lt
                        have z3b := HB8.out.at_ 3 _ rfl
                        have zlb := HB8.out.lt
                        dsimp only at p6 p7
                        generalize Wn.take l2.wn s = R at *
                        go_upto_region 19 with fail
                        rw [← hw8]
                        clear hw8 p8 f8 pl z3 zl HPe
                        obtain ⟨lo, hlo⟩ : ∃ x, x = l2.wn.low := ⟨_, rfl⟩
                        obtain ⟨ls, hls⟩ : ∃ x, x = l2.wn.seen.length := ⟨_, rfl⟩
                        rw [← hlo] at p6 HTk
                        rw [← hls] at p7 HTk
                        clear hlo hls
                        go_cut [9, 10, 11] from 111 to 121 (fun p f c wx => f = .bool R.2.1 ∧ c = .int .i64 R.2.2 ∧ AlJ pa2 (R.2.1 = false ∧ R.2.2 = 0) w8 wx p R.1)
                        case first =>
                          go_region_held3 (fun w' => Gr w8 w' ∧ w'.cell? ⟨g, 6, none⟩ = some (.int .i64 lo) ∧ w'.cell? ⟨g, 7, none⟩ = some (.slice pa2 ls pc2) ∧ w'.cell? ⟨w.heap.size, 3, none⟩ = some (.int .i64 s))
                            ((exact ⟨(by (with_reducible repeat' (first | exact Gr.refl _ | refine Gr.set ?_ _ ?_ _ | refine Gr.alloc ?_ | refine Gr.drew ?_ | refine Gr.trans ?_ (by assumption))) <;> (first | (simp; done) | (simp; omega) | omega)), Gr.keep (by (with_reducible repeat' (first | exact Gr.refl _ | refine Gr.set ?_ _ ?_ _ | refine Gr.alloc ?_ | refine Gr.drew ?_ | refine Gr.trans ?_ (by assumption))) <;> (first | (simp; done) | (simp; omega) | omega)) p6, Gr.keep (by (with_reducible repeat' (first | exact Gr.refl _ | refine Gr.set ?_ _ ?_ _ | refine Gr.alloc ?_ | refine Gr.drew ?_ | refine Gr.trans ?_ (by assumption))) <;> (first | (simp; done) | (simp; omega) | omega)) p7, Gr.keep (by (with_reducible repeat' (first | exact Gr.refl _ | refine Gr.set ?_ _ ?_ _ | refine Gr.alloc ?_ | refine Gr.drew ?_ | refine Gr.trans ?_ (by assumption))) <;> (first | (simp; done) | (simp; omega) | omega)) z3b⟩))
                            ((first
                              | (go_at_call 35; refine (HTk.out _ (by (with_reducible repeat' (first | exact Gr.refl _ | refine Gr.set ?_ _ ?_ _ | refine Gr.alloc ?_ | refine Gr.drew ?_ | refine Gr.trans ?_ (by assumption))) <;> (first | (simp; done) | (simp; omega) | omega))).mono ?_; rintro e wn ⟨ab, ac2, rfl, hwd, hnb, hgn⟩; have hbz := ((Bx2.new w8 (.int .i64 0) (.slice none 0 0) 56 _ rfl).gr (Gr.refl _).drew).gr hgn; obtain ⟨x0, x1, xf0, xf1, x6⟩ := hbz)
                              | (go_at_call 35; refine (HTk.out _ (by (with_reducible repeat' (first | exact Gr.refl _ | refine Gr.set ?_ _ ?_ _ | refine Gr.alloc ?_ | refine Gr.drew ?_ | refine Gr.trans ?_ (by assumption))) <;> (first | (simp; done) | (simp; omega) | omega))).mono ?_; rintro e wn ⟨ab, ac2, rfl, hwd, hnb, hgn⟩)))
                          · go_wp2_with fail
                            go_meet
                            exact ⟨rfl, rfl, alj_last ((Gr.refl w8).drew.trans hgn) hwd hnb _⟩
                          · go_wp2_with fail
                            go_meet
                            exact ⟨rfl, rfl, alj_first (Nat.le_refl _) ((Gr.refl w8).alloc.drew.trans hgn) ⟨x0, x1, xf0, xf1, x6⟩ hwd (fun p ep => by rcases hnb p ep with h | h; exact Or.inl h; exact Or.inr (by simp at h; omega)) (fun hn p ep => by rcases hnb p ep with h | h; (have := (HNx.out hn p h.1 h.2).1; omega); (simp at h; omega))⟩
                        case rest =>
                          obtain ⟨rfl, rfl, gx, ab, ac2, rfl, hA⟩ := hcut
                          have hgA := hA.gr
                          have HNb : Hid (R.1.seen ≠ [] → ∀ p, ab = some p → Y p.block) := fun hn p ep => by
                            rcases hA.ne p ep with ⟨h1, h2⟩ | h1
                            · exact (HNx.out hn p h1 h2).2
                            · exact HF8.out p.block h1
                          have HKc := Lib.hid (HK8.out.gr hgA)
                          have HGc := Lib.hid (HG8.out.gr hgA)
                          have HBc := Lib.hid (HB8.out.gr hgA)
                          have HDc := Lib.hid (HD8.out.gr hgA)
                          have HFc := Lib.hid (HF8.out.gr hgA)
                          have HMc := Lib.hid (HM8.out.gr hgA)
                          clear HK8 HG8 HB8 HD8 HF8 HM8
                          obtain ⟨x0, x1, _, _, xl⟩ := hA.bx
                          have HWd := Lib.hid hA.wd
                          clear hA hgA HNx HTk p6 p7 pl2 z3b zlb
                          obtain ⟨pa, pc, pE, pa2, pc2, hpk⟩ := HKc.out
                          by_cases hz : R.2.2 = 0
                          · have hzb2 : (R.2.2 != 0) = false := by simp [hz]
                            have HTR4 : Hid (TR = (0, R.2.1, { l2 with wn := R.1, ow := true })) := by show _ = _; rw [HTR3.out, if_pos hz]
                            have hp9 := hpk.window HWd.out HNb.out
                            have p6 := hpk.cs.at_ 6 _ rfl
                            have pf6 := hpk.cs.fz 6 (by simp)
                            have p7 := hpk.cs.at_ 7 _ rfl
                            have pf7 := hpk.cs.fz 7 (by simp)
                            have pl := hpk.cs.lt
                            have hgo := (gb_set g 6 wc (.int .i64 R.1.low)).trans (gb_set g 7 _ (.slice ab R.1.seen.length ac2))
                            dsimp only at p6 p7
                            have HKd := Lib.hid (show LkAt Y _ g { l2 with wn := R.1, ow := true } from ⟨_, _, _, _, _, hp9⟩)
                            have HGd := Lib.hid (HGc.out.trans hgo)
                            have HBd := Lib.hid (GB.cs hgo HBc.out (by omega))
                            have HDd := Lib.hid (GB.cs hgo HDc.out (by omega))
                            have HFd := Lib.hid (HFc.out.gb hgo)
                            have HMd := Lib.hid (HMc.out.gb hgo HYg.out)
                            clear hz hp9 hgo hpk HTR3
                            clear HKc HGc HBc HDc HFc HMc
                            cases hfr : R.2.1 with
                            | false =>
                              have HTR5 : Hid (TR = (0, false, { l2 with wn := R.1, ow := true })) := by show _ = _; rw [HTR4.out, hfr]
                              have c0 := HDd.out.at_ 0 _ rfl
                              have c1 := HDd.out.at_ 1 _ rfl
                              have c2 := HDd.out.at_ 2 _ rfl
                              have c3 := HDd.out.at_ 3 _ rfl
                              have c4 := HDd.out.at_ 4 _ rfl
                              have c5 := HDd.out.at_ 5 _ rfl
                              have cf0 := HDd.out.fz 0 (by simp)
                              have cf1 := HDd.out.fz 1 (by simp)
                              have cf2 := HDd.out.fz 2 (by simp)
                              have cf3 := HDd.out.fz 3 (by simp)
                              have cf4 := HDd.out.fz 4 (by simp)
                              have cf5 := HDd.out.fz 5 (by simp)
                              have clt := HDd.out.lt
                              go_wp2
                              refine bodyPost_ret (v := .tuple #[.agg #[.int .i64 0, .int .i64 0, .int .i64 0, .slice none 0 0, .string ⟨#[]⟩, .int .i64 0], .bool false, .int .i64 0]) (by simp [results, Tryz.results11, go_sem, *]) rfl ?_
                              rw [HTR5.out]
                              refine TnL.no ?_ (HGd.out.set6 _ (by omega) _ _ _ _ _ _)
                              exact (HKd.out.gb (gb_set6 _ _ _ _ _ _ _ _) HYn.out (by omega)).turn (fun b _ k => HYz.out b k) HZg.out
                            | true =>
                              have HTR5 : Hid (TR = (0, true, { l2 with wn := R.1, ow := true })) := by show _ = _; rw [HTR4.out, hfr]
                              have c0 := HDd.out.at_ 0 _ rfl
                              have c1 := HDd.out.at_ 1 _ rfl
                              have c2 := HDd.out.at_ 2 _ rfl
                              have c3 := HDd.out.at_ 3 _ rfl
                              have c4 := HDd.out.at_ 4 _ rfl
                              have c5 := HDd.out.at_ 5 _ rfl
                              have cf0 := HDd.out.fz 0 (by simp)
                              have cf1 := HDd.out.fz 1 (by simp)
                              have cf2 := HDd.out.fz 2 (by simp)
                              have cf3 := HDd.out.fz 3 (by simp)
                              have cf4 := HDd.out.fz 4 (by simp)
                              have cf5 := HDd.out.fz 5 (by simp)
                              have clt := HDd.out.lt
                              have z0 := HBd.out.at_ 0 _ rfl
                              have z1 := HBd.out.at_ 1 _ rfl
                              have z2 := HBd.out.at_ 2 _ rfl
                              have z3 := HBd.out.at_ 3 _ rfl
                              have z4 := HBd.out.at_ 4 _ rfl
                              have z5 := HBd.out.at_ 5 _ rfl
                              have z6 := HBd.out.at_ 6 _ rfl
                              have z7 := HBd.out.at_ 7 _ rfl
                              have z8 := HBd.out.at_ 8 _ rfl
                              have z9 := HBd.out.at_ 9 _ rfl
                              have z10 := HBd.out.at_ 10 _ rfl
                              have z11 := HBd.out.at_ 11 _ rfl
                              have zf0 := HBd.out.fz 0 (by simp)
                              have zf1 := HBd.out.fz 1 (by simp)
                              have zf2 := HBd.out.fz 2 (by simp)
                              have zf3 := HBd.out.fz 3 (by simp)
                              have zf4 := HBd.out.fz 4 (by simp)
                              have zf5 := HBd.out.fz 5 (by simp)
                              have zf6 := HBd.out.fz 6 (by simp)
                              have zf7 := HBd.out.fz 7 (by simp)
                              have zf8 := HBd.out.fz 8 (by simp)
                              have zf9 := HBd.out.fz 9 (by simp)
                              have zf10 := HBd.out.fz 10 (by simp)
                              have zf11 := HBd.out.fz 11 (by simp)
                              have zlt := HBd.out.lt
                              go_wp2
                              refine bodyPost_ret (v := .tuple #[.agg #[.int .i64 k0, .int .i64 r, .int .i64 n, .slice ad ll cap, .string d, .int .i64 y], .bool true, .int .i64 0]) (by simp [results, Tryz.results11, go_sem, *]) rfl ?_
                              rw [HTR5.out]
                              refine ⟨ad, cap, by rw [← HLl.out]; rfl, ?_, ?_, HGd.out.set6 _ (by omega) _ _ _ _ _ _⟩
                              · exact (HMd.out.gb (gb_set6 _ _ _ _ _ _ _ _) HYn.out).turn (fun b _ k => HYz.out b k)
                              · exact (HKd.out.gb (gb_set6 _ _ _ _ _ _ _ _) HYn.out (by omega)).turn (fun b _ k => HYz.out b k) HZg.out
                          · have hzb2 : (R.2.2 != 0) = true := bne_iff_ne.2 hz
                            have HTR4 : Hid (TR = (R.2.2, false, { l2 with ow := true })) := by show _ = _; rw [HTR3.out, if_neg hz]
                            clear hz hpk
                            have c0 := HDc.out.at_ 0 _ rfl
                            have c1 := HDc.out.at_ 1 _ rfl
                            have c2 := HDc.out.at_ 2 _ rfl
                            have c3 := HDc.out.at_ 3 _ rfl
                            have c4 := HDc.out.at_ 4 _ rfl
                            have c5 := HDc.out.at_ 5 _ rfl
                            have cf0 := HDc.out.fz 0 (by simp)
                            have cf1 := HDc.out.fz 1 (by simp)
                            have cf2 := HDc.out.fz 2 (by simp)
                            have cf3 := HDc.out.fz 3 (by simp)
                            have cf4 := HDc.out.fz 4 (by simp)
                            have cf5 := HDc.out.fz 5 (by simp)
                            have clt := HDc.out.lt
                            go_wp2
                            refine bodyPost_ret (v := .tuple #[.agg #[.int .i64 0, .int .i64 0, .int .i64 0, .slice none 0 0, .string ⟨#[]⟩, .int .i64 0], .bool false, .int .i64 R.2.2]) (by simp [results, Tryz.results11, go_sem, *]) rfl ?_
                            rw [HTR4.out]
                            refine TnL.no ?_ (HGc.out.set6 _ (by omega) _ _ _ _ _ _)
                            exact (HKc.out.gb (gb_set6 _ _ _ _ _ _ _ _) HYn.out (by omega)).turn (fun b _ k => HYz.out b k) HZg.out
                  · have qb : (ae != l1.ep) = true := bne_iff_ne.2 qa
                    have HTR2 : Hid (TR = (200, false, { l1 with ow := true })) := by show _ = _; rw [HTR.out, if_neg qa]
                    clear qa HTR
                    go_wp2
                    go_region
                    all_goals
                      obtain ⟨w5, hw5⟩ : ∃ x, x = World.drew w4 := ⟨_, rfl⟩
                      rw [← hw5]
                      have hg5 : Gr w4 w5 := by rw [hw5]; exact (Gr.refl _).drew
                      have HK5 := Lib.hid (HK4.out.gr hg5)
                      have HG5 := Lib.hid (HG4.out.gr hg5)
                      have HB5 := Lib.hid (HB4.out.gr hg5)
                      have HD5 := Lib.hid (HD4.out.gr hg5)
                      have HF5 := Lib.hid (HF4.out.gr hg5)
                      have HM5 := Lib.hid (HM4.out.gr hg5)
                      clear hg5 hw5 z4 zl p2 pl
                      obtain ⟨pa, pc, pE, pa2, pc2, hpk⟩ := HK5.out
                      have p8 := hpk.cs.at_ 8 _ rfl
                      have f8 := hpk.cs.fz 8 (by simp)
                      have pl := hpk.cs.lt
                      have hp8 := hpk.owe true
                      clear hpk
                      have HK6 := Lib.hid (show LkAt _ _ g _ from ⟨_, _, _, _, _, hp8⟩)
                      have HG6 := Lib.hid (HG5.out.trans (gb_set g 8 w5 (.bool true)))
                      have HB6 := Lib.hid (GB.cs (gb_set g 8 w5 (.bool true)) HB5.out (by omega))
                      have HD6 := Lib.hid (GB.cs (gb_set g 8 w5 (.bool true)) HD5.out (by omega))
                      have HF6 := Lib.hid (HF5.out.gb (gb_set g 8 w5 (.bool true)))
                      have HM6 := Lib.hid (HM5.out.gb (gb_set g 8 w5 (.bool true)) HYg.out)
                      clear hp8
                      have c0 := HD6.out.at_ 0 _ rfl
                      have c1 := HD6.out.at_ 1 _ rfl
                      have c2 := HD6.out.at_ 2 _ rfl
                      have c3 := HD6.out.at_ 3 _ rfl
                      have c4 := HD6.out.at_ 4 _ rfl
                      have c5 := HD6.out.at_ 5 _ rfl
                      have cf0 := HD6.out.fz 0 (by simp)
                      have cf1 := HD6.out.fz 1 (by simp)
                      have cf2 := HD6.out.fz 2 (by simp)
                      have cf3 := HD6.out.fz 3 (by simp)
                      have cf4 := HD6.out.fz 4 (by simp)
                      have cf5 := HD6.out.fz 5 (by simp)
                      have clt := HD6.out.lt
                      go_wp2
                      refine bodyPost_ret (v := .tuple #[.agg #[.int .i64 0, .int .i64 0, .int .i64 0, .slice none 0 0, .string ⟨#[]⟩, .int .i64 0], .bool false, .int .i64 200]) (by simp [results, Tryz.results11, go_sem, *]) rfl ?_
                      rw [HTR2.out]
                      refine TnL.no ?_ (HG6.out.set6 _ (by omega) _ _ _ _ _ _)
                      exact (HK6.out.gb (gb_set6 _ _ _ _ _ _ _ _) HYn.out (by omega)).turn (fun b _ k => HYz.out b k) HZg.out
        · have hre : re = 2 := by rw [HRg.out, if_neg qt]
          have HTR := Lib.hid (HR0.out (by omega))
          rw [hre] at HTR
          have qt2 : ¬ (0 ≤ now ∧ now ≤ 1000000000) := by rw [HTm.out] at qt; simpa using qt
          have c0 := HD2.out.at_ 0 _ rfl
          have c1 := HD2.out.at_ 1 _ rfl
          have c2 := HD2.out.at_ 2 _ rfl
          have c3 := HD2.out.at_ 3 _ rfl
          have c4 := HD2.out.at_ 4 _ rfl
          have c5 := HD2.out.at_ 5 _ rfl
          have cf0 := HD2.out.fz 0 (by simp)
          have cf1 := HD2.out.fz 1 (by simp)
          have cf2 := HD2.out.fz 2 (by simp)
          have cf3 := HD2.out.fz 3 (by simp)
          have cf4 := HD2.out.fz 4 (by simp)
          have cf5 := HD2.out.fz 5 (by simp)
          have clt := HD2.out.lt
          clear hre HR0 HR1 HRg HTm qt
          by_cases qn : now < 0
          · clear qt2
            go_wp2
            refine bodyPost_ret (v := .tuple #[.agg #[.int .i64 0, .int .i64 0, .int .i64 0, .slice none 0 0, .string ⟨#[]⟩, .int .i64 0], .bool false, .int .i64 2]) (by simp [results, Tryz.results11, go_sem, *]) rfl ?_
            rw [HTR.out]
            refine TnL.no ?_ (HG2.out.set6 _ (by omega) _ _ _ _ _ _)
            exact (HK2.out.gb (gb_set6 _ _ _ _ _ _ _ _) HYn.out (by omega)).turn (fun b _ k => HYz.out b k) HZg.out
          · have qn2 : 1000000000 < now := by omega
            clear qt2
            go_wp2
            refine bodyPost_ret (v := .tuple #[.agg #[.int .i64 0, .int .i64 0, .int .i64 0, .slice none 0 0, .string ⟨#[]⟩, .int .i64 0], .bool false, .int .i64 2]) (by simp [results, Tryz.results11, go_sem, *]) rfl ?_
            rw [HTR.out]
            refine TnL.no ?_ (HG2.out.set6 _ (by omega) _ _ _ _ _ _)
            exact (HK2.out.gb (gb_set6 _ _ _ _ _ _ _ _) HYn.out (by omega)).turn (fun b _ k => HYz.out b k) HZg.out
end Go.Proofs.YthfbpilfdfploaaGreat
