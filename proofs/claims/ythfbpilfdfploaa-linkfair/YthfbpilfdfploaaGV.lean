/- Parts of these proofs, laid together. -/
import Derived.Test.YthfbpilfdfploaaGU
import Derived.Deep.MidRow
namespace Go.Proofs.Ythfbpilfdfploaa
open Go.RowKit
open Lk (St)

def step1 (l : Nat → St Nx) (s t : Nat) (now : Int) : Nat → St Nx := upd (upd l s (Lk.tickS CX (l s) now)) t (Lk.dlv CX (l t) (Lk.tickF CX (l s) now) now)
def ls (l : Nat → St Nx) (now : Int) : Nat → Nat → St Nx
  | 0 => l
  | 1 => step1 l 0 1 now
  | _ => step1 (step1 l 0 1 now) 1 0 now
theorem dlv_ep (now : Int) : ∀ (fs : List (Lk.Fr Nx)) (y : St Nx), (Lk.dlv CX y fs now).ep = y.ep
  | [], _ => rfl
  | f :: r, y => by
    show (Lk.dlv CX (Lk.takeR CX y f now).2.2 r now).ep = y.ep
    rw [dlv_ep now r, take_ep]
theorem dlv_snoc (y : St Nx) (fs : List (Lk.Fr Nx)) (f : Lk.Fr Nx) (now : Int) : Lk.dlv CX y (fs ++ [f]) now = (Lk.takeR CX (Lk.dlv CX y fs now) f now).2.2 := by
  unfold Lk.dlv
  rw [List.foldl_append]; rfl
theorem step_tw {l : Nat → St Nx} {now B : Int} (h : Tw l now B []) {s t : Nat} (hst : s + t = 1) (hB : B ≤ 1000000) (ht : Ox.tmB now = true) : Tw (step1 l s t now) now B [] := by
  rcases (show (s = 0 ∧ t = 1) ∨ (s = 1 ∧ t = 0) by omega) with ⟨rfl, rfl⟩ | ⟨rfl, rfl⟩
  · have g1 := Lk.half nt_ok (Or.inl rfl) hB ht h.l h.r
    exact ⟨g1.sx, g1.sy, by simp⟩
  · have g1 := Lk.half (s := 1) nt_ok (Or.inr rfl) hB ht h.r h.l
    exact ⟨g1.sy, g1.sx, by simp⟩
theorem upd_back {α : Type} (f : Nat → α) {s t : Nat} (x : α) (h : t ≠ s) : upd (upd f s x) t (f t) = upd f s x := by
  funext q
  by_cases e : q = t
  · subst e; rw [upd_same, upd_other _ _ h]
  · rw [upd_other _ _ e]
theorem upd_twice {α : Type} (f : Nat → α) (t : Nat) (x y : α) : upd (upd f t x) t y = upd f t y := by
  funext q
  by_cases e : q = t
  · subst e; rw [upd_same, upd_same]
  · rw [upd_other _ _ e, upd_other _ _ e, upd_other _ _ e]
/- a tick's frames are off all this -/
theorem frs_z {Z : Nat → Prop} {w0 w : World} {a : Option Addr} {c : Nat} {T : List Mf} (h : Fxs Z w w0.heap.size (.slice a T.length c) T) (hF : Frs Z w0) : FrsZ Z w a T := by
  obtain ⟨_, _, e, _, _, hit, hb⟩ := h.at
  cases e
  exact ⟨hit, fun _ p e => hF _ (hb p e)⟩
theorem frs_range {w : World} {ad : Option Addr} {D : List Mf} (h : RowAt fC w ad D) (k : Nat) (hk : k < D.length) : ∃ b off, ad = some ⟨b, off, none⟩ ∧ b < w.heap.size ∧ w.rangeAt b (off + k * 12) (fC D[k]) := by
  have g := fun i hi => flat_get fC_len D k hk i hi
  obtain ⟨b, off, rfl, hb, _⟩ := h _ _ (g 0 (by omega))
  refine ⟨b, off, rfl, hb, fun j v hv => ?_⟩
  have hj : j < 12 := by
    rcases Nat.lt_or_ge j 12 with h2 | h2
    · exact h2
    · rw [List.getElem?_eq_none (by rw [fC_len]; exact h2)] at hv; cases hv
  have e := g j hj
  rw [hv] at e
  obtain ⟨_, _, e2, _, c⟩ := h _ _ e
  cases e2
  rw [Nat.add_assoc]; exact c
theorem fr_size (x : Mf) : (Try.prog.info? 28).map (·.size) = some (fC x).length := by rw [fC_len]; kernel_rfl
theorem meas_lt {n j : Nat} (hw : wrap64 ((j : Int) + 1) = (j : Int) + 1) (h : j < n) : n - (intOf (.int .i64 (wrap64 ((j : Int) + 1)))).toNat < n - (intOf (.int .i64 (j : Int))).toNat := by
  rw [hw]
  show n - ((j : Int) + 1).toNat < n - (j : Int).toNat
  omega
def RdR (Z : Nat → Prop) (w0 : World) (gp : Nat) (g : Nat → Nat) (l : Nat → St Nx) (vl : Nat → Int) (now : Int) (P : Nat → Int) (ad : Option Addr) (cap : Nat) (D : List Mf) (w' : World) : Prop := ∃ H, Pa Z w0 w' gp g l vl now P H ad cap D
set_option maxHeartbeats 16000000 in
set_option maxRecDepth 100000 in
theorem round_any {Z : Nat → Prop} {w0 w : World} {gp : Nat} {g : Nat → Nat} {l : Nat → St Nx} {vl : Nat → Int} {now B : Int} {P H : Nat → Int} {ad : Option Addr} {cap : Nat} {D : List Mf} (h : Pa Z w0 w gp g l vl now P H ad cap D) (htw : Tw l now B []) (hB : B ≤ 1000000) (hn0 : 0 ≤ now) (hn1 : now ≤ 100000) :
    Calls Try.prog 18 #[.pointer (some ⟨gp, 0, none⟩)] w fun e w' => e = .returned (.bool true) ∧ RdR Z w0 gp g (ls l (now + 1) 2) vl (now + 1) P ad cap D w' := by
  have ht : Ox.tmB (now + 1) = true := decide_eq_true (by omega)
  have h0 : Tw l (now + 1) B [] := htw.mono (by omega) (Int.le_refl _)
  have HTws : Hid (∀ s, s < 2 → Tw (ls l (now + 1) s) (now + 1) B []) := by
    intro s hs
    rcases two_cases hs with rfl | rfl
    · exact h0
    · exact step_tw h0 rfl hB ht
  have HStep : Hid (∀ s t, s + t = 1 → ls l (now + 1) (s + 1) = step1 (ls l (now + 1) s) s t (now + 1)) := by
    intro s t hst
    rcases (show (s = 0 ∧ t = 1) ∨ (s = 1 ∧ t = 0) by omega) with ⟨rfl, rfl⟩ | ⟨rfl, rfl⟩ <;> rfl
  have hw : wrap64 (now + 1) = now + 1 := wrap_small (by omega) (by omega)
  have HTt := Lib.hid ht
  have HP0 : Hid (Pa Z w0 (w.setCell ⟨gp, 5, none⟩ (.int .i64 (now + 1))) gp g (ls l (now + 1) 0) vl (now + 1) P H ad cap D) := h.setN (now + 1)
  have q5 := h.pc.cn
  have qf5 := h.pc.fz 5 (by omega)
  have ql := h.pc.lt
  clear h htw ht h0
  generalize ls l (now + 1) = LS at *
  go_enter Try.func18, Try.ntmps18
  go_upto_region 2 with fail
  obtain ⟨wA, hwA⟩ : ∃ x, x = w.setCell ⟨gp, 5, none⟩ (.int .i64 (now + 1)) := ⟨_, rfl⟩
  rw [← hwA] at HP0 ⊢
  clear hwA q5 qf5 ql
  generalize hnw : now + 1 = nw at *
  have HNw := Lib.hid hnw
  clear hnw
  go_wp2
  go_loopw [3] (fun s3 wr => ∃ s : Nat, s3 = .int .i64 s ∧ s ≤ 2 ∧ RdR Z w0 gp g (LS s) vl nw P ad cap D wr) (fun s3 _ => 2 - (intOf s3).toNat)
  case atStart => exact ⟨0, rfl, by omega, H, HP0.out⟩
  case round =>
    obtain ⟨s, rfl, hs, hr⟩ := hrel
    obtain ⟨H1, hp⟩ := hr
    have HP := Lib.hid hp
    clear hp HP0
    by_cases hlt : s < 2
    · have hs2 : (s : Int) < 2 := by omega
      have hs0 : (0 : Int) ≤ (s : Int) := by omega
      obtain ⟨t, hst⟩ : ∃ t, s + t = 1 := ⟨1 - s, by omega⟩
      have ht2 : t < 2 := by omega
      have hts : t ≠ s := by omega
      have HTw := Lib.hid (HTws.out s hlt)
      have HEq : Hid (∀ q, q < 2 → (LS s q).ep ≠ 0) := fun q hq => by have := HTw.out.ep hq; omega
      have HSt := Lib.hid (HStep.out s t hst)
      have HTk : Hid (∀ w', Gr wr w' → Calls Try.prog 12 #[.pointer (some ⟨g s, 0, none⟩), .int .i64 nw] w' fun e w2 => TkF Z (Lk.tickF CX (LS s s) nw) w' e w2 ∧ Pa Z w0 w2 gp g (upd (LS s) s (Lk.tickS CX (LS s s) nw)) vl nw P H1 ad cap D ∧ GB (g s) w' w2) := fun w' k => a_tick (HP.out.up k) hlt (HEq.out s hlt) nw
      have k5 := HP.out.pc.cn
      have ks := HP.out.pc.ck s hlt
      have kl := HP.out.pc.lt
      go_upto_region 5 with fail
      refine wp_region_held_drew (S := (fun w' => w'.cell? ⟨gp, s, none⟩ = some (.pointer (some ⟨g s, 0, none⟩)) ∧ w'.cell? ⟨gp, 5, none⟩ = some (.int .i64 nw))) (by kernel_rfl) (by first | with_reducible exact hHeld | exact hS1 | exact ⟨Gr.keep (by repeat(first|exact Gr.r _|refine Gr.a ?_|refine Gr.d ?_|refine Gr.t ?_ (by assumption))) ks, Gr.keep (by repeat(first|exact Gr.r _|refine Gr.a ?_|refine Gr.d ?_|refine Gr.t ?_ (by assumption))) k5⟩) (fun hHeld => ?_)
      refine ty 0 17 hHeld ?_
      refine ty 1 18 hHeld ?_
      refine ty 2 19 hHeld ?_
      refine ty 3 20 hHeld ?_
      refine ty 4 21 hHeld ?_
      refine ty 5 22 hHeld ?_
      refine ty 6 23 hHeld ?_
      refine ty 7 24 hHeld ?_
      refine ty 8 25 hHeld ?_
      refine ty 9 26 hHeld ?_
      refine wpAnyH_ready (rs := [10]) (by kernel_rfl) (by simp) (AllReadyH.cons rfl (fun K hK => ?_) AllReadyH.nil)
      go_simp
      (go_at_call 12; refine (HTk.out _ (Gr.refl _).drew).mono ?_; rintro e w4 ⟨⟨aT, cT, T, rfl, hfT, hTe⟩, hp4, hg4⟩; have hS1 := And.intro (hp4.pc.ck s hlt) hp4.pc.cn)
      (try go_wp2_with fail)
      refine hK.out _ _ (by first | with_reducible exact hHeld | exact hS1 | exact ⟨Gr.keep (by repeat(first|exact Gr.r _|refine Gr.a ?_|refine Gr.d ?_|refine Gr.t ?_ (by assumption))) ks, Gr.keep (by repeat(first|exact Gr.r _|refine Gr.a ?_|refine Gr.d ?_|refine Gr.t ?_ (by assumption))) k5⟩) (fun hHeldN => ?_)
      clear hHeld hK K
      have hHeld := hHeldN
      clear hHeldN
      refine ty 11 4 hHeld ?_
      refine wpAnyH_done (by kernel_rfl) ?_ _
      have HFz := Lib.hid (frs_z hfT ((HP.out.up (Gr.refl wr).drew).pl.fr))
      have HTe := Lib.hid hTe
      have HP4 := Lib.hid hp4
      have HL0 : Hid (upd (upd (LS s) s (Lk.tickS CX (LS s s) nw)) t (Lk.dlv CX (LS s t) ((frs T).take 0) nw) = upd (LS s) s (Lk.tickS CX (LS s s) nw)) := upd_back (LS s) _ hts
      have HTl : Hid (T.length ≤ 12) := by show _ ≤ _; rw [← frs_len, hTe]; exact tick_len _ _
      clear hHeld hS1 hfT hTe hp4 hg4 k5 ks kl HTk
      go_wp2
      go_loopw [5] (fun s5 wi => ∃ j : Nat, s5 = .int .i64 j ∧ j ≤ T.length ∧ FrsZ Z wi aT T ∧ RdR Z w0 gp g (upd (upd (LS s) s (Lk.tickS CX (LS s s) nw)) t (Lk.dlv CX (LS s t) ((frs T).take j) nw)) vl nw P ad cap D wi) (fun s5 _ => T.length - (intOf s5).toNat)
      case atStart => exact ⟨0, rfl, Nat.zero_le _, HFz.out, H1, by rw [HL0.out]; exact HP4.out⟩
      case round =>
        obtain ⟨j, rfl, hj, hfz, hr⟩ := hrel
        obtain ⟨H2, hp⟩ := hr
        have HFj := Lib.hid hfz
        have HPj := Lib.hid hp
        clear hfz hp HFz HP4
        by_cases hjl : j < T.length
        · have hw1 : (j : Int) < (T.length : Int) := by omega
          have hj0 : (0 : Int) ≤ (j : Int) := by omega
          obtain ⟨b, off2, rfl, hbl2, hrg⟩ := frs_range HFj.out.at_.row j hjl
          have HRg := Lib.hid hrg
          have hut := Try.underlying28
          clear hrg
          have hmn := HFj.out.at_.nt T[j] (List.getElem_mem hjl)
          have hfo : FrOk s t T[j].fr := HTw.out.tickok hlt hst HTt.out (by rw [← HTe.out]; exact List.mem_map.2 ⟨_, List.getElem_mem hjl, rfl⟩)
          have HLe : Hid ((upd (upd (LS s) s (Lk.tickS CX (LS s s) nw)) t (Lk.dlv CX (LS s t) ((frs T).take j) nw) t).ep ≠ 0) := by
            show _ ≠ _
            rw [upd_same, dlv_ep]
            exact HEq.out t ht2
          have HPt : Hid (Calls Try.prog 16 #[.pointer (some ⟨gp, 0, none⟩), T[j].v] wr fun e w2 => PtkR Z w0 wr gp g (upd (upd (LS s) s (Lk.tickS CX (LS s s) nw)) t (Lk.dlv CX (LS s t) ((frs T).take j) nw)) vl nw P H2 ad cap D s t T[j].m.x (Lk.takeR CX (upd (upd (LS s) s (Lk.tickS CX (LS s s) nw)) t (Lk.dlv CX (LS s t) ((frs T).take j) nw) t) T[j].fr nw) e w2) := ptake_any HPj.out hlt ht2 HLe.out T[j] hmn hfo.1 hfo.2.1 (fun h => hfo.note h)
          have HNx : Hid (upd (upd (upd (LS s) s (Lk.tickS CX (LS s s) nw)) t (Lk.dlv CX (LS s t) ((frs T).take j) nw)) t (Lk.takeR CX (upd (upd (LS s) s (Lk.tickS CX (LS s s) nw)) t (Lk.dlv CX (LS s t) ((frs T).take j) nw) t) T[j].fr nw).2.2 = upd (upd (LS s) s (Lk.tickS CX (LS s s) nw)) t (Lk.dlv CX (LS s t) ((frs T).take (j + 1)) nw)) := by
            show _ = _
            rw [upd_twice, upd_same, List.take_succ_eq_append_getElem (by rw [frs_len]; exact hjl), dlv_snoc]
            congr 2
            simp only [frs, List.getElem_map]
          have HSn : Hid (∀ b, (b = g t ∨ b = gp) → ¬ Z b) := fun b hb => hb.elim (fun e => by rw [e]; exact (HPj.out.pl.pk t ht2).nz) (fun e => by rw [e]; exact HPj.out.pl.zp)
          clear hfo hmn
          generalize T[j] = xf at *
          have HPv : Hid (Calls Try.prog 16 #[.pointer (some ⟨gp, 0, none⟩), .agg (fC xf).toArray] wr _) := HPt.out
          clear HPt
          go_wp2_with (first | (refine wpList_load_mid rfl 28 _ rfl b (off2 + j * 12) rfl (fC xf) _ HRg.out hut rfl (fr_size xf) ?_) | fail)
          refine HPv.out.mono ?_
          intro e wn hp2
          obtain ⟨rfl, H3, hpa2, hkb, _, _⟩ := hp2
          have HPn := Lib.hid hpa2
          have HFn := Lib.hid (HFj.out.kb hkb HSn.out)
          clear hpa2 hkb hbl2 HPv hut HRg
          have hwj : wrap64 ((j : Int) + 1) = (j : Int) + 1 := wrap_small (by omega) (by have := HTl.out; omega)
          go_wp2
          go_roundw
          case rel => exact ⟨j + 1, by rw [hwj]; rfl, by clear hwj; omega, HFn.out, H3, by rw [← HNx.out]; exact HPn.out⟩
          case measure => exact meas_lt hwj hjl
        · have hw1 : ¬ ((j : Int) < (T.length : Int)) := by omega
          obtain rfl : j = T.length := by omega
          have HLn : Hid (upd (upd (LS s) s (Lk.tickS CX (LS s s) nw)) t (Lk.dlv CX (LS s t) ((frs T).take T.length) nw) = LS (s + 1)) := by
            show _ = _
            rw [HSt.out, ← frs_len, List.take_length, HTe.out]; rfl
          go_wp2
          go_roundw
          case rel => exact ⟨s + 1, by go_num, by omega, H2, by rw [← HLn.out]; exact HPj.out⟩
          case measure => simp [intOf]; omega
    · have hs2 : ¬ (s : Int) < 2 := by omega
      obtain rfl : s = 2 := by omega
      go_wp2
      go_ret
      exact ⟨rfl, H1, by rw [HNw.out]; exact HP.out⟩
/- so many rounds are left -/
def RdI (w0 w : World) (gp r : Nat) : Prop := ∃ Z g l vl now B P H ad cap D, Pa Z w0 w gp g l vl now P H ad cap D ∧ Tw l now B [] ∧ B ≤ 1000000 ∧ 0 ≤ now ∧ now ≤ 1000 + r ∧ Lk.Rem (40 - (r : Int)) now (l 0) (l 1) ∧ Lk.Rem (40 - (r : Int)) now (l 1) (l 0)
theorem rounds_any {w0 w : World} {gp r : Nat} (h : RdI w0 w gp r) (hr : r < 40) : Calls Try.prog 18 #[.pointer (some ⟨gp, 0, none⟩)] w fun e w' => e = .returned (.bool true) ∧ RdI w0 w' gp (r + 1) := by
  obtain ⟨Z, g, l, vl, now, B, P, H, ad, cap, D, hp, ht, hB, h0, h1, ra, rb⟩ := h
  refine (round_any hp ht hB h0 (by omega)).mono ?_
  rintro e w' ⟨rfl, H2, hp2⟩
  have e40 : 40 - (r : Int) = (40 - ((r + 1 : Nat) : Int)) + 1 := by omega
  rw [e40] at ra rb
  obtain ⟨g1, g2, g3⟩ := Lk.round_all nt_ok hB (m := 40 - ((r + 1 : Nat) : Int)) (by omega) (decide_eq_true (by omega)) ht ra rb
  exact ⟨rfl, Z, g, _, vl, now + 1, B, P, H2, ad, cap, D, hp2, g1, hB, by omega, by omega, g2, g3⟩
end Go.Proofs.Ythfbpilfdfploaa
