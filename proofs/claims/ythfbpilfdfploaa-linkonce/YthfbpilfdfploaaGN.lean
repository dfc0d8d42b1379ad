/- Parts of these proofs, laid together. -/
import Derived.Test.YthfbpilfdfploaaGJ
namespace Go.Proofs.Ythfbpilfdfploaa
open Go.RowKit
open Lk (St)

variable {Z : Nat → Prop}
/- what Tick answers -/
def TkF (Z : Nat → Prop) (R : List (Lk.Fr Nx)) (w : World) (e : Ending) (w' : World) : Prop :=
  ∃ a c D, e = .returned (.slice a D.length c) ∧ Fxs Z w' w.heap.size (.slice a D.length c) D ∧ frs D = R
theorem due_len {l : List (Ox.It Nx)} {now : Int} : (Ox.dueD okN l now).length ≤ 12 := by
  unfold Ox.dueD
  split
  · rename_i hc
    rw [List.length_map]
    exact Nat.le_trans (List.length_filter_le _ _) ((Ox.mayB_iff _ _).1 hc.1).len
  · simp
theorem its_none {F : List Mi} {l : List (Ox.It Nx)} (h : its F = l) (h0 : F.length = 0) : l = [] := by
  rw [← h, List.length_eq_zero_iff.1 h0]; rfl
theorem frs_map (l : St Nx) {F : List Mi} {D : List Mf} (hl : D.length = F.length) (hD : ∀ (i : Nat) (h1 : i < D.length) (h2 : i < F.length), D[i].fr = Lk.frm l F[i].q (pk F[i].m.x)) : frs D = (its F).map (fun x => Lk.frm l x.q x.n) := by
  refine List.ext_getElem ?_ (fun i h1 h2 => ?_)
  · rw [frs_len, List.length_map, its_len, hl]
  · have h1' : i < D.length := by rw [frs_len] at h1; exact h1
    have h2' : i < F.length := by omega
    have e1 : (frs D)[i] = D[i].fr := by simp only [frs, List.getElem_map]
    rw [List.getElem_map, its_get F i h2', e1]
    exact hD i h1' h2'
set_option maxHeartbeats 16000000 in
set_option maxRecDepth 100000 in
theorem kTick_any (g : Nat) (l : St Nx) (now : Int) (w : World) (h : PkAt Z w g l) (he : l.ep ≠ 0) (hF : Frs Z w) :
    Calls Try.prog 12 #[.pointer (some ⟨g, 0, none⟩), .int .i64 now] w fun e w' => TkF Z (Lk.tickF CX l now) w e w' ∧ PkAt Z w' g (Lk.tickS CX l now) ∧ GB g w w' := by
  obtain ⟨i0, hi0, hz0, hz1, hz2⟩ := info_parts infoFrame
  have HM : Hid (Calls Try.prog 19 #[.pointer (some ⟨g, 0, none⟩)] w fun e w2 => e = .returned (.bool true) ∧ w2 = w) := by
    obtain ⟨a, c, E, a2, c2, h⟩ := h
    have := made_any g l.ep w (h.cs.at_ 2 _ rfl)
    rwa [decide_eq_false he] at this
  have HT : Hid (∀ w', Calls Try.prog 28 #[.int .i64 now] w' fun e w2 => e = .returned (.bool (Ox.tmB now)) ∧ w2 = w') := fun w' => kTime_any now w'
  cases ht : Ox.tmB now with
  | false =>
    rw [ht] at HT
    have HR : Hid (TkF Z (Lk.tickF CX l now) w (.returned (.slice none 0 0)) w ∧ PkAt Z w g (Lk.tickS CX l now) ∧ GB g w w) := by
      unfold Lk.tickF Lk.tickS
      rw [ht, if_neg (by decide), if_neg (by decide)]
      exact ⟨⟨none, 0, [], rfl, Fxs.nil _ _, rfl⟩, h, GB.refl _ _⟩
    clear h hF he ht
    go_enter Try.func12, Try.ntmps12
    go_wp2_with fail
    refine HM.out.mono ?_
    rintro e1 w1 ⟨rfl, hw1⟩; obtain rfl := hw1.symm
    go_wp2_with fail
    refine (HT.out _).mono ?_
    rintro e1 w1 ⟨rfl, hw1⟩; obtain rfl := hw1.symm
    go_wp2
    go_ret
    exact HR.out
  | true =>
    rw [ht] at HT
    have HD : Hid (Calls Try.prog 29 #[.pointer (some ⟨g, 0, none⟩), .int .i64 now] w fun e w' => ∃ b d F, e = .returned (.slice b F.length d) ∧ Bxs Z w' w.heap.size (.slice b F.length d) F ∧ its F = Ox.dueD okN l.it now ∧ PkAt Z w' g { l with it := Ox.dueL okN l.it now } ∧ GB g w w') := kDue_any g l now w h hF
    have HR1 : Hid (Lk.tickF CX l now = if (Ox.dueD okN l.it now).isEmpty then (if l.ow then [Lk.frm l 0 CX.z] else []) else (Ox.dueD okN l.it now).map (fun x => Lk.frm l x.q x.n)) := by
      show _ = _
      unfold Lk.tickF
      rw [ht, if_pos rfl]; rfl
    have HR2 : Hid (Lk.tickS CX l now = { l with it := Ox.dueL okN l.it now, ow := false }) := by
      show _ = _
      unfold Lk.tickS
      rw [ht, if_pos rfl]; rfl
    have HDl := Lib.hid (due_len (l := l.it) (now := now))
    have hFw := Lib.hid hF
    have HLt := Lib.hid h.lt
    generalize Lk.tickF CX l now = RF at *
    generalize Lk.tickS CX l now = RS at *
    generalize Ox.dueD okN l.it now = DD at *
    generalize Ox.dueL okN l.it now = DL at *
    have HFrm : Hid (∀ (m : Mn) (q : Int) (w' : World) (l' : St Nx), PkAt Z w' g l' → Calls Try.prog 30 #[.pointer (some ⟨g, 0, none⟩), .int .i64 q, m.v] w' fun e w2 => e = .returned (Mf.v ⟨l'.me, l'.wi, l'.ep, q, l'.kn, l'.wn.low, m⟩) ∧ Gr w' w2) := fun m q w' l' k => kFrame_any g l' q m w' k
    clear h hF he ht
    obtain ⟨me, wi, ep, kn, it, nx, wn, ow⟩ := l
    dsimp only at *
    go_enter Try.func12, Try.ntmps12
    go_wp2_with fail
    refine HM.out.mono ?_
    rintro e1 w1 ⟨rfl, hw1⟩; obtain rfl := hw1.symm
    go_wp2_with fail
    refine (HT.out _).mono ?_
    rintro e1 w1 ⟨rfl, hw1⟩; obtain rfl := hw1.symm
    go_wp2_with fail
    refine HD.out.mono ?_
    rintro e2 w1 ⟨b0, d0, F, rfl, hb, heF, hP, hgb⟩
    obtain ⟨_, _, ee, hb1, hb2, hit, hb3⟩ := hb.at
    cases ee
    have HIt := Lib.hid hit
    have HEf := Lib.hid heF
    have HP := Lib.hid hP
    have HGB := Lib.hid hgb
    have hFl : F.length ≤ 12 := by rw [← its_len F, heF]; exact HDl.out
    have hs1 : w.heap.size ≤ w1.heap.size := hgb.size
    clear hb heF hP hgb hit HD HM HT
    go_wp2
    go_loopw [5, 22] (fun s5 s22 wr => ∃ (j : Nat) (a : Option Addr) (c : Nat) (D : List Mf), s22 = .int .i64 j ∧ s5 = .slice a D.length c ∧ j ≤ F.length ∧ D.length = j ∧ (∀ (i : Nat) (h1 : i < D.length) (h2 : i < F.length), D[i].fr = Lk.frm ⟨me, wi, ep, kn, it, nx, wn, ow⟩ F[i].q (pk F[i].m.x)) ∧ Fxs Z wr w1.heap.size (.slice a D.length c) D ∧ Gr w1 wr) (fun _ s22 _ => F.length - (intOf s22).toNat)
    case atStart => exact ⟨0, none, 0, [], rfl, rfl, Nat.zero_le _, rfl, fun i h => absurd h (Nat.not_lt_zero _), Fxs.nil _ _, Gr.refl _⟩
    case round =>
      obtain ⟨j, a, c, D, rfl, rfl, hj, hDj, hall, hfx, hg⟩ := hrel
      have HG := Lib.hid hg
      have HA := Lib.hid hall
      have HFx := Lib.hid hfx
      have HDj := Lib.hid hDj
      clear hall hfx
      have hDl : D.length ≤ 12 := by omega
      have hdj : (D.length = 0 ↔ j = 0) := by omega
      have HDz := Lib.hid hdj
      clear hDj hdj
      by_cases hlt : j < F.length
      · obtain ⟨b, off, rfl, hbl, d0, d1, d2, d3, d4, d5, d6, d7, d8⟩ := ItsRow.at HIt.out.row j hlt
        have d0 := hg.keep d0
        have d1 := hg.keep d1
        have d2 := hg.keep d2
        have d3 := hg.keep d3
        have d4 := hg.keep d4
        have d5 := hg.keep d5
        have d6 := hg.keep d6
        have d7 := hg.keep d7
        have d8 := hg.keep d8
        have hbw : b < wr.heap.size := Nat.lt_of_lt_of_le hbl hg.size
        have hji : (j : Int) < (F.length : Int) := by omega
        have hj0 : (0 : Int) ≤ (j : Int) := by omega
        have HNx := Lib.hid (HIt.out.nt F[j] (List.getElem_mem hlt))
        have HPr := Lib.hid (HP.out.gr hg)
        have HAn : Hid (∀ x : Mf, x.fr = Lk.frm ⟨me, wi, ep, kn, it, nx, wn, ow⟩ F[j].q (pk F[j].m.x) → ∀ (i : Nat) (h1 : i < (D ++ [x]).length) (h2 : i < F.length), (D ++ [x])[i].fr = Lk.frm ⟨me, wi, ep, kn, it, nx, wn, ow⟩ F[i].q (pk F[i].m.x)) := by
          intro x hx i h1 h2
          by_cases hi : i < D.length
          · rw [List.getElem_append_left hi]; exact HA.out i hi h2
          · have hij : i = j := by have := HDj.out; rw [List.length_append, List.length_singleton] at h1; omega
            subst hij
            have := HDj.out
            rw [List.getElem_append_right (by omega)]
            simpa using hx
        clear hg
        generalize F[j] = x at *
        obtain ⟨q, dd, s, ⟨⟨k0, r, n, L, dt, y⟩, ax, cx⟩⟩ := x
        dsimp only [Mn.v, Mi.v, Mf.v] at *
        have hEm1 : D.length + 1 ≤ maxLen := by unfold maxLen; omega
        obtain ⟨W2, hW2⟩ : ∃ W2, W2 = wr.alloc (.cells #[.int .i64 q, .int .i64 dd, .int .i64 s, .int .i64 k0, .int .i64 r, .int .i64 n, .slice ax L.length cx, .string dt, .int .i64 y] 79) := ⟨_, rfl⟩
        have gst : Gr wr W2 := by rw [hW2]; exact (Gr.refl _).alloc
        have HCl : Hid (Calls Try.prog 30 #[.pointer (some ⟨g, 0, none⟩), .int .i64 q, .agg #[.int .i64 k0, .int .i64 r, .int .i64 n, .slice ax L.length cx, .string dt, .int .i64 y]] W2 fun e w2 => e = .returned (.agg #[.int .i64 me, .int .i64 wi, .int .i64 ep, .int .i64 q, .int .i64 kn, .int .i64 wn.low, .int .i64 k0, .int .i64 r, .int .i64 n, .slice ax L.length cx, .string dt, .int .i64 y]) ∧ Gr W2 w2) := HFrm.out ⟨⟨k0, r, n, L, dt, y⟩, ax, cx⟩ q W2 _ (HPr.out.gr gst)
        have HGs := Lib.hid gst
        subst hW2
        clear gst
        go_wp2_with fail
        refine HCl.out.mono ?_
        rintro e3 w3 ⟨rfl, hg3⟩
        have HG3 : Hid (Gr wr w3) := HGs.out.trans hg3
        have HFx3 := Lib.hid ((HFx.out.gr HG3.out).gr ((Gr.refl w3).alloc (o := .cells #[.int .i64 me, .int .i64 wi, .int .i64 ep, .int .i64 q, .int .i64 kn, .int .i64 wn.low, .int .i64 k0, .int .i64 r, .int .i64 n, .slice ax L.length cx, .string dt, .int .i64 y] 28)))
        have HG4 : Hid (Gr w1 (w3.alloc (.cells #[.int .i64 me, .int .i64 wi, .int .i64 ep, .int .i64 q, .int .i64 kn, .int .i64 wn.low, .int .i64 k0, .int .i64 r, .int .i64 n, .slice ax L.length cx, .string dt, .int .i64 y] 28))) := (HG.out.trans HG3.out).alloc
        have HM4 := Lib.hid (HNx.out.gr HG4.out)
        have hnw := f_new w3 ⟨me, wi, ep, q, kn, wn.low, ⟨⟨k0, r, n, L, dt, y⟩, ax, cx⟩⟩ 28
        rw [show (fC ⟨me, wi, ep, q, kn, wn.low, ⟨⟨k0, r, n, L, dt, y⟩, ax, cx⟩⟩).toArray = #[.int .i64 me, .int .i64 wi, .int .i64 ep, .int .i64 q, .int .i64 kn, .int .i64 wn.low, .int .i64 k0, .int .i64 r, .int .i64 n, .slice ax L.length cx, .string dt, .int .i64 y] from rfl] at hnw
        have HNw := Lib.hid hnw
        have hlen4 : w1.heap.size ≤ w3.heap.size := Nat.le_trans HG.out.size HG3.out.size
        have HAp : Hid (L ≠ [] → ∀ p, ax = some p → (Value.slice a D.length c).ownBlock ≠ some p.block) := by
          intro hne p e kk
          have h1 := (HFx.out.own.lt _ kk).1
          have h2 := hops_lt HNx.out.hp hne e
          omega
        have HAx := Lib.hid (HAn.out ⟨me, wi, ep, q, kn, wn.low, ⟨⟨k0, r, n, L, dt, y⟩, ax, cx⟩⟩ rfl)
        clear hg3 hnw d0 d1 d2 d3 d4 d5 d6 d7 d8 HCl HGs HAn
        generalize wn.low = lo at *
        go_wp2_with (first
          | (at_builtin; refine wpList_append_own_at _ rfl _ _ 48 rfl w1.heap.size 28 i0 (.agg #[.int .i64 0, .int .i64 0, .int .i64 0, .int .i64 0, .int .i64 0, .int .i64 0, .int .i64 0, .int .i64 0, .int .i64 0, .slice none 0 0, .string ⟨#[]⟩, .int .i64 0]) 12 120 Try.underlying48 hi0 hz0 hz1 hz2 rfl (by decide) _ _ _ rfl HFx3.out.own ⟨w3.heap.size, 0, none⟩ 1 1 ([(⟨me, wi, ep, q, kn, lo, ⟨⟨k0, r, n, L, dt, y⟩, ax, cx⟩⟩ : Mf)].flatMap fC) rfl rfl HNw.out (f_one _) hEm1 (by omega) (by simp; omega) ?_)
          | fail)
        intro v'' w8 hown' hgrow _ hat
        have hat : v''.ownBlock = (Value.slice a D.length c).ownBlock ∨ v''.ownBlock = some (w3.heap.size + 1) := by simpa using hat
        have hmo := Fxs.more (x := ⟨me, wi, ep, q, kn, lo, ⟨⟨k0, r, n, L, dt, y⟩, ax, cx⟩⟩) HFx3.out HM4.out HAp.out hown' hgrow (by simpa using hat)
        obtain ⟨a8, c8, rfl⟩ := hmo.slice
        have HMo := Lib.hid hmo
        have HG8 := Lib.hid (HFx3.out.grown HG4.out hgrow (Nat.le_refl _))
        clear hmo hown' hgrow hat HFx3 HM4 HG4 HNw
        go_wp2
        go_roundw
        case rel => exact ⟨j + 1, a8, c8, D ++ [(⟨me, wi, ep, q, kn, lo, ⟨⟨k0, r, n, L, dt, y⟩, ax, cx⟩⟩ : Mf)], by go_num, by simp, by omega, by have := HDj.out; simp; omega, HAx.out, HMo.out, HG8.out⟩
        case measure => simp [intOf]; omega
      · have hge : ¬ ((j : Int) < (F.length : Int)) := by omega
        have HPr := Lib.hid (HP.out.gr hg)
        have HGBr := Lib.hid (HGB.out.gr hg)
        obtain ⟨pa, pc, pE, pa2, pc2, hpk⟩ := HPr.out
        have HPk := Lib.hid hpk
        have c8 := hpk.cs.at_ 8 _ rfl
        have f8 := hpk.cs.fz 8 (by simp)
        have cl := hpk.cs.lt
        dsimp only at c8
        clear hpk hg
        by_cases hF0 : F.length = 0
        · have hD0 : D.length = 0 := HDz.out.2 (by omega)
          have HDn : Hid (D = []) := List.length_eq_zero_iff.1 hD0
          have hD1 : ((D.length : Int) == 0) = true := by rw [beq_iff_eq]; omega
          have HDD := Lib.hid (its_none HEf.out hF0)
          clear hD0
          cases ow with
          | false =>
            have HRF : Hid (RF = []) := by show _ = _; rw [HR1.out, HDD.out]; rfl
            go_wp2
            go_ret
            exact ⟨⟨a, c, D, rfl, (HFx.out.low hs1).far HPk.out.nz HLt.out, by rw [HRF.out, HDn.out]; rfl⟩, by rw [HR2.out]; exact ⟨_, _, _, _, _, HPk.out.owe false⟩, HGBr.out.trans (gb_set _ _ _ _)⟩
          | true =>
            have HRF : Hid (RF = [Lk.frm ⟨me, wi, ep, kn, it, nx, wn, true⟩ 0 CX.z]) := by show _ = _; rw [HR1.out, HDD.out]; rfl
            have HCl : Hid (∀ w', Gr wr w' → Calls Try.prog 30 #[.pointer (some ⟨g, 0, none⟩), .int .i64 0, .agg #[.int .i64 0, .int .i64 0, .int .i64 0, .slice none 0 0, .string ⟨#[]⟩, .int .i64 0]] w' fun e w2 => e = .returned (.agg #[.int .i64 me, .int .i64 wi, .int .i64 ep, .int .i64 0, .int .i64 kn, .int .i64 wn.low, .int .i64 0, .int .i64 0, .int .i64 0, .slice none 0 0, .string ⟨#[]⟩, .int .i64 0]) ∧ Gr w' w2) := fun w' k => HFrm.out ⟨Nt.zeroN, none, 0⟩ 0 w' _ (HPr.out.gr k)
            go_wp2_with fail
            refine (HCl.out _ ?_).mono ?_
            · exact (by repeat(first|exact Gr.r _|refine Gr.a ?_|refine Gr.d ?_|refine Gr.t ?_ (by assumption)))
            rintro e3 w3 ⟨rfl, hg3⟩
            have HG3 : Hid (Gr wr w3) := (by repeat(first|exact Gr.r _|refine Gr.a ?_|refine Gr.d ?_|refine Gr.t ?_ (by assumption)))
            have HFx3 := Lib.hid ((HFx.out.gr HG3.out).gr ((Gr.refl w3).alloc (o := .cells #[.int .i64 me, .int .i64 wi, .int .i64 ep, .int .i64 0, .int .i64 kn, .int .i64 wn.low, .int .i64 0, .int .i64 0, .int .i64 0, .slice none 0 0, .string ⟨#[]⟩, .int .i64 0] 28)))
            have HG4 : Hid (Gr wr (w3.alloc (.cells #[.int .i64 me, .int .i64 wi, .int .i64 ep, .int .i64 0, .int .i64 kn, .int .i64 wn.low, .int .i64 0, .int .i64 0, .int .i64 0, .slice none 0 0, .string ⟨#[]⟩, .int .i64 0] 28))) := HG3.out.alloc
            have hnw := f_new w3 ⟨me, wi, ep, 0, kn, wn.low, ⟨Nt.zeroN, none, 0⟩⟩ 28
            rw [show (fC ⟨me, wi, ep, 0, kn, wn.low, ⟨Nt.zeroN, none, 0⟩⟩).toArray = #[.int .i64 me, .int .i64 wi, .int .i64 ep, .int .i64 0, .int .i64 kn, .int .i64 wn.low, .int .i64 0, .int .i64 0, .int .i64 0, .slice none 0 0, .string ⟨#[]⟩, .int .i64 0] from rfl] at hnw
            have HNw := Lib.hid hnw
            have HM4 : Hid (∀ w', MnAt Z w' (⟨Nt.zeroN, none, 0⟩ : Mn)) := fun w' => ⟨fun j hj => absurd hj (by simp [Nt.zeroN]), by simp [Nt.zeroN], by simp [Nt.zeroN], by decide, fun hn => absurd rfl hn⟩
            have hlen4 : w1.heap.size ≤ w3.heap.size := Nat.le_trans HG.out.size HG3.out.size
            have hEm1 : D.length + 1 ≤ maxLen := by unfold maxLen; omega
            have HRF2 : Hid (frs (D ++ [(⟨me, wi, ep, 0, kn, wn.low, ⟨Nt.zeroN, none, 0⟩⟩ : Mf)]) = RF) := by show _ = _; rw [HRF.out, HDn.out]; rfl
            have HAp : Hid (∀ x ∈ D, False) := fun x hx => by rw [HDn.out] at hx; cases hx
            clear hg3 hnw
            generalize wn.low = lo at *
            go_wp2_with (first
              | (at_builtin; refine wpList_append_own_at _ rfl _ _ 48 rfl w1.heap.size 28 i0 (.agg #[.int .i64 0, .int .i64 0, .int .i64 0, .int .i64 0, .int .i64 0, .int .i64 0, .int .i64 0, .int .i64 0, .int .i64 0, .slice none 0 0, .string ⟨#[]⟩, .int .i64 0]) 12 120 Try.underlying48 hi0 hz0 hz1 hz2 rfl (by decide) _ _ _ rfl HFx3.out.own ⟨w3.heap.size, 0, none⟩ 1 1 ([(⟨me, wi, ep, 0, kn, lo, ⟨Nt.zeroN, none, 0⟩⟩ : Mf)].flatMap fC) rfl rfl HNw.out (f_one _) hEm1 (by omega) (by simp; omega) ?_)
              | fail)
            intro v'' w8 hown' hgrow _ hat
            have hat : v''.ownBlock = (Value.slice a D.length c).ownBlock ∨ v''.ownBlock = some (w3.heap.size + 1) := by simpa using hat
            have hmo := Fxs.more (x := ⟨me, wi, ep, 0, kn, lo, ⟨Nt.zeroN, none, 0⟩⟩) HFx3.out (HM4.out _) (fun hn => absurd rfl hn) hown' hgrow (by simpa using hat)
            obtain ⟨a8, c8', rfl⟩ := hmo.slice
            have HMo := Lib.hid hmo
            have HG8 := Lib.hid (HFx3.out.grown (HG.out.trans HG4.out) hgrow (Nat.le_refl _))
            have HPk8 : Hid (PkAt Z w8 g ⟨me, wi, ep, kn, DL, nx, wn, true⟩) := HP.out.gr HG8.out
            obtain ⟨pa', pc', pE', pa2', pc2', hpk'⟩ := HPk8.out
            have HPk' := Lib.hid hpk'
            have g8 := hpk'.cs.at_ 8 _ rfl
            have gf8 := hpk'.cs.fz 8 (by simp)
            have gl := hpk'.cs.lt
            clear hmo hown' hgrow hat HFx3 HM4 HG4 HNw c8 f8 cl HPk hpk' HFx
            go_wp2
            go_ret
            exact ⟨⟨a8, c8', _, by simp, (HMo.out.low hs1).far HPk'.out.nz HLt.out, HRF2.out⟩, by rw [HR2.out]; exact ⟨_, _, _, _, _, HPk'.out.owe false⟩, (HGB.out.gr HG8.out).trans (gb_set _ _ _ _)⟩
        · have hD0 : ¬ D.length = 0 := fun k => by have := HDz.out.1 k; omega
          have hD1 : ((D.length : Int) == 0) = false := by rw [beq_eq_false_iff_ne]; omega
          have HRF : Hid (frs D = RF) := by
            show _ = _
            have hne : DD ≠ [] := fun k => hF0 (by have := congrArg List.length HEf.out; rw [its_len, k] at this; simpa using this)
            have hie : DD.isEmpty = false := by
              cases DD with
              | nil => exact absurd rfl hne
              | cons x t => rfl
            rw [HR1.out, hie]
            rw [if_neg (by decide), ← HEf.out]
            exact frs_map _ (by have := HDj.out; omega) HA.out
          clear hF0
          go_wp2
          go_ret
          exact ⟨⟨a, c, D, rfl, (HFx.out.low hs1).far HPk.out.nz HLt.out, HRF.out⟩, by rw [HR2.out]; exact ⟨_, _, _, _, _, HPk.out.owe false⟩, HGBr.out.trans (gb_set _ _ _ _)⟩
end Go.Proofs.Ythfbpilfdfploaa
