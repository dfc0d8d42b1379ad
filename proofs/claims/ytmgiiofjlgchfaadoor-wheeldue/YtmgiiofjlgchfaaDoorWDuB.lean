
/- What is due: the statement's walk. -/
import Derived.Test.YtmgiiofjlgchfaaDoorWDuA
import Derived.Test.YtmgiiofjlgchfaaDoorWhY
namespace Go.Proofs.YtmgiiofjlgchfaaDoor
open Go.RowKit Go.Maps Go.Sort
open Wh (Tm Sl ks hasK atK del ins put dig whl Inv tlt Up trn upto past upd updT)

theorem infoInt : (Tryd.prog.info? 3).map (fun i => (i.zero, i.size, i.bytes)) = some (some (.int .i64 0), 1, 8) := by kernel_rfl
/- a timer set that was let in -/
theorem set_in {t : Nat} {L : List Tm} {k : ByteArray} {s : Int} (ht : t ≤ 100000) (hs : s ≤ 40000) (h : setE t L k (ltr t s) = 0) : ∃ a : Nat, ltr t s = (a : Int) ∧ t < a ∧ a ≤ 140000 ∧ setL t L k (ltr t s) = ins (del L k) (k, a) := by
  have h1 : ¬ ltr t s ≤ (t : Int) := by
    intro hc
    unfold setE at h
    split at h
    · cases h
    · first | (rw [if_pos hc] at h; cases h) | cases h
  have h2 : ltr t s ≤ 140000 := by unfold ltr; split <;> omega
  refine ⟨(ltr t s).toNat, by omega, by omega, by omega, ?_⟩
  unfold setL
  rw [if_pos h]
theorem now_of {a w : World} {b m t : Nat} {L : List Tm} {S : Sl} {V : Vl} (h : Wl a w b m t L S V) : nowOf (w.cell? ⟨b, 0, none⟩) = t := by
  rw [h.wa.now]; simp [nowOf]
theorem tick_one {x : Nat} (h : x ≤ 140000) : x + 1 = min (x + 1) 1000000000 := (Nat.min_eq_left (by omega)).symm
structure DuI (w wr : World) (b m t : Nat) (M L : List Tm) (S : Sl) (V : Vl) (v8 v9 : Value) (lst : Nat) : Prop where
  wl : Wl w wr b m t L S V
  rw2 : Rw2 w wr b m V M.length (ks M) (M.map Prod.snd) v8 v9
  pm : M.Perm L
  mx : ∀ x ∈ L, x.2 ≤ lst
  le : lst ≤ 140000
set_option maxHeartbeats 16000000 in
set_option maxRecDepth 100000 in
theorem due_main (t : Nat) (T : List Ac) (ad : Option Addr) (cap : Nat) (w : World) (hT : Tb w) (hR : RowAt acf w ad T) (ht : t ≤ 100000) (hl : T.length ≤ 100) :
    Calls Tryd.prog 5 #[.int .i64 (t : Int), .slice ad T.length cap] w fun e w' => e = .returned (.bool true) ∧ Gr w w' := by
  have HN := Lib.hid (new_yes (t := t) w (by omega))
  have HT : Hid (Tb w) := hT
  have HR : Hid (RowAt acf w ad T) := hR
  have ht0 : ¬ (t : Int) < 0 := by omega
  have ht1 : ¬ (100000 : Int) < (t : Int) := by omega
  have hl1 : ¬ (100 : Int) < (T.length : Int) := by omega
  have HLt : Hid (∀ (s : Int) (w' : World), Calls Tryd.prog 12 #[.int .i64 (t : Int), .int .i64 s] w' fun e w2 => e = .returned (.int .i64 (ltr t s)) ∧ w2 = w') := fun s w' => later_any t s w' (by omega) (by omega)
  obtain ⟨i0, hi0, hz0, hz1, hz2⟩ := info_parts infoStr
  obtain ⟨j0, hj0, hy0, hy1, hy2⟩ := info_parts infoInt
  clear hT hR
  go_enter Tryd.func5, Tryd.ntmps5
  go_wp2_with fail
  refine HN.out.mono ?_
  rintro e w1 ⟨rfl, hw, hg⟩
  have HW1 := Lib.hid (Wl.new (by omega) hw hg)
  obtain ⟨b, hb⟩ : ∃ b, b = w.heap.size + 1 := ⟨_, rfl⟩
  rw [← hb] at HW1 ⊢
  obtain ⟨m, hm⟩ : ∃ m, m = w.heap.size := ⟨_, rfl⟩
  rw [← hm] at HW1
  have HS1 : Hid (DuI w w1 b m t [] [] S0 V0 (.slice none 0 0) (.slice none 0 0) 0) := ⟨HW1.out, ⟨World.ownsRow_nil _ _ _ _, World.ownsRow_nil _ _ _ _, (fun j hj => by cases hj), (fun j hj => by cases hj)⟩, .rfl, by simp, by omega⟩
  clear hw hg HN hb hm HW1
  go_wp2
  go_loopw [7, 8, 9, 10] (fun v7 v8 v9 i wr => ∃ (q : Nat) (M L : List Tm) (S1 : Sl) (V1 : Vl) (lst : Nat), q ≤ T.length ∧ M.length ≤ q ∧ i = .int .i64 (q : Int) ∧ v7 = .int .i64 (lst : Int) ∧ DuI w wr b m t M L S1 V1 v8 v9 lst) (fun _ _ _ i _ => T.length - (intOf i).toNat)
  case atStart => exact ⟨0, [], [], S0, V0, 0, Nat.zero_le _, by simp, rfl, rfl, HS1.out⟩
  case round =>
    obtain ⟨q, M, L, S1, V1, lst, hq, hMq, rfl, rfl, hI⟩ := hrel
    have HI : Hid (DuI w wr b m t M L S1 V1 u8 u9 lst) := hI
    have hlst := hI.le
    clear hI HS1
    by_cases hlt : q < T.length
    · obtain ⟨x, off, hade, hxb, _, c1, c2⟩ := ac_at (HR.out.gr HI.out.wl.gr) q hlt
      subst hade
      have HLk := Lib.hid (HLt.out T[q].a)
      have HSI : Hid (T[q].a ≤ 40000 → setE t L T[q].s (ltr t T[q].a) = 0 → ∃ a : Nat, ltr t T[q].a = (a : Int) ∧ t < a ∧ a ≤ 140000 ∧ setL t L T[q].s (ltr t T[q].a) = ins (del L T[q].s) (T[q].s, a)) := fun h1 h2 => set_in ht h1 h2
      have HSt : Hid (∀ W, Gr wr W → Calls Tryd.prog 11 #[ptr b, .string T[q].s, .int .i64 (ltr t T[q].a)] W fun e w2 => e = .returned (.int .i64 (setE t L T[q].s (ltr t T[q].a))) ∧ DrA W w2 b m t (setL t L T[q].s (ltr t T[q].a)) V1) := fun W g => set_all (HI.out.wl.grow g).wa HI.out.wl.iv _ _
      have HSL : Hid (setE t L T[q].s (ltr t T[q].a) ≠ 0 → setL t L T[q].s (ltr t T[q].a) = L) := fun h => by unfold setL; rw [if_neg h]
      generalize setE t L T[q].s (ltr t T[q].a) = se at *
      generalize setL t L T[q].s (ltr t T[q].a) = L2 at *
      generalize T[q].s = k at *
      generalize ltr t T[q].a = la at *
      generalize T[q].a = ka at *
      go_upto_region 12 with fail
      go_quiet ((go_at_call 12; exact Calls.quiet_of_same (HLk.out _)))
      have HI1 : Hid (DuI w (wr.drewN nq) b m t M L S1 V1 u8 u9 lst) := ⟨HI.out.wl.grow ((Gr.refl _).drewN _), HI.out.rw2.gr ((Gr.refl _).drewN _), HI.out.pm, HI.out.mx, HI.out.le⟩
      by_cases hka : 40000 < ka
      · clear HSt HSI HSL
        go_wp2
        go_roundw
        case rel => exact ⟨q + 1, M, L, S1, V1, lst, by omega, by omega, by simp, rfl, HI1.out⟩
        case measure => simp [intOf]; omega
      · by_cases hks : (1000 : Int) < (k.size : Int)
        · clear HSt HSI HSL
          go_wp2
          go_roundw
          case rel => exact ⟨q + 1, M, L, S1, V1, lst, by omega, by omega, by simp, rfl, HI1.out⟩
          case measure => simp [intOf]; omega
        · go_wp2_with fail
          refine (HSt.out _ ((Gr.refl _).drewN _)).mono ?_
          rintro e w2 ⟨rfl, S2, V2, q1, q2, q3⟩
          by_cases hse : se = 0
          · subst hse
            obtain ⟨a, ela, hta, ha14, eL2⟩ := HSI.out (by omega) rfl
            subst ela
            rw [eL2] at q1 q2
            have HW2 := Lib.hid (HI1.out.wl.tn q3 q1 q2)
            have HRw := Lib.hid (HI1.out.rw2.tn q3)
            obtain ⟨ls2, els⟩ : ∃ ls2, ls2 = max lst a := ⟨_, rfl⟩
            have hmx : max (lst : Int) (a : Int) = (ls2 : Int) := by omega
            have hls2 : ls2 ≤ 140000 := by omega
            have HFin : Hid ((if hasK M k = true then upd M k a else M ++ [(k, a)]).Perm (ins (del L k) (k, a)) ∧ ∀ x ∈ ins (del L k) (k, a), x.2 ≤ ls2) := ⟨Wh.due_perm HI.out.pm HI.out.wl.iv.ok.nd k a, Wh.due_max HI.out.mx els⟩
            obtain ⟨L3, eL3⟩ : ∃ L3, L3 = ins (del L k) (k, a) := ⟨_, rfl⟩
            rw [← eL3] at HW2 HFin
            have hM100 : M.length ≤ 100 := by omega
            clear HSt HSI HSL q1 q2 q3 eL2 eL3 els HI1 HI c1 c2 HLk
            go_wp2
            go_loopw [13, 14] (fun v13 v14 wx => ∃ j : Nat, j ≤ M.length ∧ v14 = .int .i64 (j : Int) ∧ v13 = .bool (hasK (M.take j) k) ∧ Wl w wx b m t L3 S2 V2 ∧ Rw2 w wx b m V2 M.length (ks M) ((updT M k a j).map Prod.snd) u8 u9) (fun _ v14 _ => M.length - (intOf v14).toNat)
            case atStart => exact ⟨0, Nat.zero_le _, rfl, rfl, HW2.out, by rw [Wh.updT_zero]; exact HRw.out⟩
            case round =>
              obtain ⟨j, hj, rfl, rfl, hwl, hrw⟩ := hrel
              clear HW2 HRw
              by_cases hjl : j < M.length
              · obtain ⟨g8, c8, e8, hk8⟩ := hrw.key (j := j) (k := M[j].1) (by simp [ks, hjl])
                obtain ⟨g9, c9, e9, ha9, hf9⟩ := hrw.time (j := j) (a := M[j].2) (by rw [List.getElem?_map, Wh.updT_get hjl]; rfl)
                subst e8
                subst e9
                have hht := Wh.has_take (k := k) hjl
                have hkk := eqB M[j].1 k
                by_cases hke : M[j].1 = k
                · have HR9 : Hid (Rw2 w (wr.setCell ⟨g9, j, none⟩ (.int .i64 (a : Int))) b m V2 M.length (ks M) ((updT M k a (j + 1)).map Prod.snd) (.slice (some ⟨g8, 0, none⟩) M.length c8) (.slice (some ⟨g9, 0, none⟩) M.length c9)) := by
                    have h5 := hrw.store j a
                    have e5 : (updT M k a (j + 1)).map Prod.snd = ((updT M k a j).map Prod.snd).set j a := by
                      rw [Wh.updT_succ hjl, if_pos hke, List.map_set]
                    show Rw2 _ _ _ _ _ _ _ _ _ _
                    rw [e5]
                    exact h5
                  have HW9 : Hid (Wl w (wr.setCell ⟨g9, j, none⟩ (.int .i64 (a : Int))) b m t L3 S2 V2) := hwl.stored _ (hrw.ao g9 rfl) (hrw.ar.lt g9 rfl).1
                  have hmt : hasK (M.take (j + 1)) k = true := by rw [hht, decide_eq_true hke, Bool.or_true]
                  have HMt := Lib.hid hmt
                  rw [decide_eq_true hke] at hkk
                  clear hht hmt hwl hrw hke
                  generalize M[j].1 = mk at *
                  generalize M[j].2 = ma at *
                  go_wp2
                  go_roundw
                  case rel => exact ⟨j + 1, by omega, by simp, by rw [HMt.out], HW9.out, HR9.out⟩
                  case measure => simp [intOf]; omega
                · have HR9 : Hid (Rw2 w wr b m V2 M.length (ks M) ((updT M k a (j + 1)).map Prod.snd) (.slice (some ⟨g8, 0, none⟩) M.length c8) (.slice (some ⟨g9, 0, none⟩) M.length c9)) := by
                    show Rw2 _ _ _ _ _ _ _ _ _ _
                    rw [Wh.updT_stay hjl hke]
                    exact hrw
                  have HW9 := Lib.hid hwl
                  have hmt : hasK (M.take (j + 1)) k = hasK (M.take j) k := by rw [hht, decide_eq_false hke, Bool.or_false]
                  have HMt := Lib.hid hmt
                  rw [decide_eq_false hke] at hkk
                  clear hht hmt hwl hrw hke
                  generalize hasK (M.take j) k = mt at *
                  generalize M[j].1 = mk at *
                  generalize M[j].2 = ma at *
                  go_wp2
                  go_roundw
                  case rel => exact ⟨j + 1, by omega, by simp, by rw [HMt.out], HW9.out, HR9.out⟩
                  case measure => simp [intOf]; omega
              · obtain rfl : j = M.length := by omega
                rw [List.take_length, Wh.updT_all] at *
                obtain ⟨a8, c8, rfl⟩ := own_slice hrw.kr
                obtain ⟨a9, c9, rfl⟩ := own_slice hrw.ar
                have HW9 := Lib.hid hwl
                have HR9 := Lib.hid hrw
                cases hh : hasK M k with
                | true =>
                  have HI9 : Hid (DuI w wr b m t (upd M k a) L3 S2 V2 (.slice a8 M.length c8) (.slice a9 M.length c9) ls2) := by
                    have h5 := HFin.out.1
                    rw [hh, if_pos rfl] at h5
                    refine ⟨HW9.out, ?_, h5, HFin.out.2, hls2⟩
                    rw [Wh.upd_len, Wh.upd_ks]
                    exact HR9.out
                  have hul := Wh.upd_len M k a
                  have HUl := Lib.hid hul
                  clear hh hwl hrw hul HFin HR9 HW9
                  go_wp2
                  go_roundw
                  case rel => exact ⟨q + 1, upd M k a, L3, S2, V2, ls2, by omega, by rw [HUl.out]; omega, by simp, rfl, HI9.out⟩
                  case measure => simp [intOf]; omega
                | false =>
                  rw [Wh.upd_none hh] at HR9
                  have HPm : Hid ((M ++ [(k, a)]).Perm L3) := by
                    have h5 := HFin.out.1
                    rw [hh] at h5
                    exact h5
                  have HMx := Lib.hid HFin.out.2
                  have HK1 : Hid (World.ownsRow (wr.alloc (.cells #[.string k] 9)) w.heap.size 9 1 (.slice a8 M.length c8) M.length (strs (ks M))) := HR9.out.kr.alloc _
                  have tok1 : True := trivial
                  have hszw := HW9.out.gr.size
                  clear hh hwl hrw HFin
                  go_wp2_with (first
                    | (at_builtin; have _t := tok1; refine wpList_append_own_at _ rfl _ _ 52 rfl w.heap.size 9 i0 (.string ⟨#[]⟩) 1 16 Tryd.underlying52 hi0 hz0 hz1 hz2 rfl (by decide) _ _ _ rfl HK1.out ⟨wr.heap.size, 0, none⟩ 1 1 [.string k] rfl rfl (cell_one rfl) (by intro u hu; simp at hu; subst hu; rfl) (by unfold maxLen; omega) (by omega) (by simp; omega) ?_; intro v1 w3 r1 g1 n1 l1
                       have hs3 : wr.heap.size + 1 ≤ w3.heap.size := by have := g1.size; simpa using this
                       have HA1 : Hid (World.ownsRow (w3.alloc (.cells #[.int .i64 (a : Int)] 3)) w.heap.size 3 1 (.slice a9 M.length c9) M.length (nats (M.map Prod.snd))) := by
                         refine World.ownsRow.alloc ?_ _
                         refine row_keep HR9.out.ar (fun j hj => ?_)
                         have hj2 := (HR9.out.ar.lt j hj).2
                         rw [g1.block j (by simp; omega) (fun e => HR9.out.ne e.symm hj), Below.heap_alloc _ _ _ hj2]
                       have HR1 := Lib.hid r1
                       have HG1 := Lib.hid g1
                       have HL1 := Lib.hid l1
                       clear r1 g1 n1 l1 tok1 HK1)
                    | (at_builtin; refine wpList_append_own_at _ rfl _ _ 59 rfl w.heap.size 3 j0 (.int .i64 0) 1 8 Tryd.underlying59 hj0 hy0 hy1 hy2 rfl (by decide) _ _ _ rfl HA1.out ⟨w3.heap.size, 0, none⟩ 1 1 [.int .i64 (a : Int)] rfl rfl (cell_one rfl) (by intro u hu; simp at hu; subst hu; rfl) (by unfold maxLen; omega) (by omega) (by simp; omega) ?_; intro v2 w4 r2 g2 n2 l2
                       have HI9 : Hid (DuI w w4 b m t (M ++ [(k, a)]) L3 S2 V2 v1 v2 ls2) := by
                         have hW3 := (HW9.out.grow (Gr.refl wr).alloc).grownOff HG1.out (fun j hj => ⟨HR9.out.ko j hj, (HR9.out.kr.lt j hj).1⟩)
                         have hW4 := (hW3.grow (Gr.refl w3).alloc).grownOff g2 (fun j hj => ⟨HR9.out.ao j hj, (HR9.out.ar.lt j hj).1⟩)
                         have hp := HR9.out.push HW9.out.wa HG1.out HR1.out HL1.out g2 r2 l2
                         refine ⟨hW4, ?_, HPm.out, HMx.out, hls2⟩
                         have e5 : (M ++ [(k, a)]).length = M.length + 1 := by simp
                         have e6 : ks (M ++ [(k, a)]) = ks M ++ [k] := by simp [ks]
                         have e7 : (M ++ [(k, a)]).map Prod.snd = M.map Prod.snd ++ [a] := by simp
                         rw [e5, e6, e7]
                         exact hp
                       clear r2 g2 n2 l2 HA1 HR1 HG1 HL1)
                    | go_in)
                  go_roundw
                  case rel => exact ⟨q + 1, M ++ [(k, a)], L3, S2, V2, ls2, by omega, by simp; omega, by simp, rfl, HI9.out⟩
                  case measure => simp [intOf]; omega
          · have hsb : (se != 0) = true := by simpa using hse
            have e2 := HSL.out hse
            rw [e2] at q1 q2
            have HI2 : Hid (DuI w w2 b m t M L S2 V2 u8 u9 lst) := ⟨HI1.out.wl.tn q3 q1 q2, HI1.out.rw2.tn q3, HI1.out.pm, HI1.out.mx, HI1.out.le⟩
            clear HSt HSI HSL q1 q2 q3 e2 hse
            go_wp2
            go_roundw
            case rel => exact ⟨q + 1, M, L, S2, V2, lst, by omega, by omega, by simp, rfl, HI2.out⟩
            case measure => simp [intOf]; omega
    · obtain rfl : q = T.length := by omega
      obtain ⟨a8, c8, rfl⟩ := own_slice HI.out.rw2.kr
      obtain ⟨a9, c9, rfl⟩ := own_slice HI.out.rw2.ar
      have HOk := Lib.hid HI.out.wl.iv.ok
      have HPm := Lib.hid HI.out.pm
      have HMx := Lib.hid HI.out.mx
      have HW0 : Hid (Wl w wr b m t (past L t) S1 V1) := by show Wl _ _ _ _ _ _ _ _; rw [Wh.past_now HOk.out]; exact HI.out.wl
      have HRw0 := Lib.hid HI.out.rw2
      have hu0 : (upto L t).length = 0 := by rw [Wh.upto_now HOk.out]; rfl
      have HU0 := Lib.hid hu0
      have hM100 : M.length ≤ 100 := by omega
      clear HI hu0
      obtain ⟨wz, rfl⟩ : ∃ x, x = wr := ⟨_, rfl⟩
      go_wp2
      go_loopw [15, 16, 17, 18, 19] (fun v15 _ _ _ _ wr => ∃ (x : Nat) (S2 : Sl) (V2 : Vl), t ≤ x ∧ x ≤ 140000 ∧ v15 = .int .i64 ((upto L x).length : Int) ∧ Wl w wr b m x (past L x) S2 V2 ∧ Rw2 w wr b m V2 M.length (ks M) (M.map Prod.snd) (.slice a8 M.length c8) (.slice a9 M.length c9)) (fun _ _ _ _ _ wr => lst - nowOf (wr.cell? ⟨b, 0, none⟩))
      case atStart => exact ⟨t, S1, V1, Nat.le_refl _, by omega, by rw [HU0.out]; rfl, HW0.out, HRw0.out⟩
      case round =>
        obtain ⟨x, S2, V2, htx, hx14, rfl, hwl, hrw⟩ := hrel
        clear HW0 HRw0 HU0
        have HNw := Lib.hid (now_any hwl.wa)
        have HW := Lib.hid hwl
        have HRw := Lib.hid hrw
        have hul : (upto L x).length ≤ 200 := Nat.le_trans (List.length_filter_le _ _) HOk.out.few
        clear hwl hrw
        by_cases hxl : x < lst
        · have hxl' : (x : Int) < (lst : Int) := by omega
          go_wp2_with fail
          refine HNw.out.mono ?_
          rintro e w' ⟨rfl, hw⟩
          obtain rfl := hw.symm
          clear hw
          go_wp2_with fail
          refine (tick_all HW.out.wa HW.out.iv (HW.out.tab HT.out).1 (HW.out.tab HT.out).2 (E := x + 1) (tick_one hx14)).mono ?_
          rintro e w2 ⟨v16, S3, V3, rfl, hk⟩
          have hW2 := HW.out.sk hk
          rw [Wh.past_two] at hW2
          have HW2 := Lib.hid hW2
          have HR2 := Lib.hid (HRw.out.tn hk.tn)
          have HUl := Lib.hid (Wh.upto_len HOk.out.up (x := x))
          have htr : TmR w2 v16 (upto (past L x) (x + 1)) := own_low hk.tr (Nat.zero_le _)
          have HDm : Hid (∀ y ∈ upto (past L x) (x + 1), y.2 = x + 1 ∧ hasK M y.1 = true ∧ ∀ z ∈ M, z.1 = y.1 → z.2 = x + 1) := fun y hy => by
            obtain ⟨h5, h6⟩ := Wh.tick_at hy
            have h7 : y ∈ M := HPm.out.mem_iff.2 h6
            refine ⟨h5, Wh.hasK_of h7, fun z hz e => ?_⟩
            rw [Wh.key_one (Wh.perm_nd HPm.out HOk.out.nd) hz h7 e, h5]
          have HDu : Hid (Up (upto (past L x) (x + 1))) := (HOk.out.up.sublist List.filter_sublist).sublist List.filter_sublist
          have hdl : (upto (past L x) (x + 1)).length ≤ 200 := Nat.le_trans (Nat.le_trans (List.length_filter_le _ _) (List.length_filter_le _ _)) HOk.out.few
          obtain ⟨D, eD⟩ : ∃ D, D = upto (past L x) (x + 1) := ⟨_, rfl⟩
          rw [← eD] at htr HDm HDu hdl HUl
          obtain ⟨a16, c16, rfl, _, _, row16, _⟩ := tm_row htr
          have HQ := Lib.hid row16
          clear hk hW2 htr row16 eD HNw
          obtain ⟨ul, eul⟩ : ∃ ul, ul = (upto L x).length := ⟨_, rfl⟩
          rw [← eul] at hul HUl ⊢
          clear eul
          go_wp2
          obtain ⟨wy, rfl⟩ : ∃ x, x = wr := ⟨_, rfl⟩
          go_loopw [17, 18, 19] (fun v17 _ _ wr => ∃ p : Nat, p ≤ D.length ∧ v17 = .int .i64 (p : Int) ∧ Gr w2 wr) (fun v17 _ _ _ => D.length - (intOf v17).toNat)
          case atStart => exact ⟨0, Nat.zero_le _, rfl, Gr.refl _⟩
          case round =>
            obtain ⟨p, hp, rfl, hg4⟩ := hrel
            have HG4 := Lib.hid hg4
            clear hg4
            by_cases hpl : p < D.length
            · obtain ⟨hd1, hd2, hd3⟩ := HDm.out D[p] (List.getElem_mem hpl)
              have HD3 := Lib.hid hd3
              have HD2 := Lib.hid hd2
              have HD1 := Lib.hid hd1
              clear hd1 hd2 hd3
              go_wp2
              obtain ⟨wx, rfl⟩ : ∃ x, x = wr := ⟨_, rfl⟩
              go_loopw [18, 19] (fun v18 v19 wr => ∃ j : Nat, j ≤ M.length ∧ v19 = .int .i64 (j : Int) ∧ v18 = .bool (hasK (M.take j) D[p].1) ∧ Gr w2 wr) (fun _ v19 _ => M.length - (intOf v19).toNat)
              case atStart => exact ⟨0, Nat.zero_le _, rfl, rfl, HG4.out⟩
              case round =>
                obtain ⟨j, hj, rfl, rfl, hg5⟩ := hrel
                have HG5 := Lib.hid hg5
                clear hg5 HG4
                by_cases hjl : j < M.length
                · obtain ⟨b16, o16, e16, _, l0, l1⟩ := tm_at (HQ.out.gr HG5.out) p hpl
                  obtain ⟨g8, d8, e8, hk8⟩ := (HR2.out.gr HG5.out).key (j := j) (k := M[j].1) (by simp [ks, hjl])
                  obtain ⟨g9, d9, e9, ha9, _⟩ := (HR2.out.gr HG5.out).time (j := j) (a := M[j].2) (by simp [hjl])
                  injection e8 with e81 e82 e83
                  injection e9 with e91 e92 e93
                  subst e81 e83 e91 e93 e16
                  have hht := Wh.has_take (k := D[p].1) hjl
                  have hkk := eqB M[j].1 D[p].1
                  have HNq : Hid (∀ n, Calls Tryd.prog 23 #[ptr b] (wr.drewN n) fun e w' => e = .returned (.int .i64 ((x + 1 : Nat) : Int)) ∧ w' = wr.drewN n) := fun n => now_any (HW2.out.grow (HG5.out.drewN n)).wa
                  cases hmt : hasK (M.take j) D[p].1 with
                  | true =>
                    rw [hmt, Bool.true_or] at hht
                    have HHt := Lib.hid hht
                    clear hht hkk hmt HNq
                    generalize M[j].1 = mk at *
                    generalize M[j].2 = ma at *
                    go_upto_region 35 with fail
                    go_quiet (fail)
                    go_wp2
                    go_roundw
                    case rel => exact ⟨j + 1, by omega, by simp, by rw [HHt.out], HG5.out.drewN _⟩
                    case measure => simp [intOf]; omega
                  | false =>
                    rw [hmt, Bool.false_or] at hht
                    by_cases hke : M[j].1 = D[p].1
                    · rw [decide_eq_true hke] at hht hkk
                      have hm2 := HD3.out M[j] (List.getElem_mem hjl) hke
                      rw [hm2] at ha9
                      rw [HD1.out] at l1
                      have HHt := Lib.hid hht
                      obtain ⟨x1, ex1⟩ : ∃ x1, x1 = x + 1 := ⟨_, rfl⟩
                      rw [← ex1] at ha9 l1 HNq
                      have HX1 := Lib.hid ex1
                      clear hht hmt hm2 hke ex1 HD1 HD2 HD3
                      generalize M[j].1 = mk at *
                      generalize D[p].1 = dk at *
                      go_upto_region 35 with fail
                      go_quiet ((go_at_call 23; exact Calls.quiet_of_same (HNq.out _)))
                      go_wp2
                      go_roundw
                      case rel => exact ⟨j + 1, by omega, by simp, by rw [HHt.out], HG5.out.drewN _⟩
                      case measure => simp [intOf]; omega
                    · rw [decide_eq_false hke] at hht hkk
                      have HHt := Lib.hid hht
                      clear hht hmt hke HNq
                      generalize M[j].1 = mk at *
                      generalize M[j].2 = ma at *
                      go_upto_region 35 with fail
                      go_quiet (fail)
                      go_wp2
                      go_roundw
                      case rel => exact ⟨j + 1, by omega, by simp, by rw [HHt.out], HG5.out.drewN _⟩
                      case measure => simp [intOf]; omega
                · obtain rfl : j = M.length := by omega
                  rw [List.take_length, HD2.out]
                  obtain ⟨b16, o16, e16, _, l0, _⟩ := tm_at (HQ.out.gr HG5.out) p hpl
                  subst e16
                  cases p with
                  | zero =>
                    go_upto_region 36 with fail
                    go_quiet (fail)
                    go_wp2
                    go_roundw
                    case rel => exact ⟨1, by omega, by simp, HG5.out.drewN _⟩
                    case measure => simp [intOf]; omega
                  | succ s =>
                    obtain ⟨_, _, e17, _, k0, _⟩ := tm_at (HQ.out.gr HG5.out) s (by omega)
                    cases e17
                    have hdS := (HDm.out D[s] (List.getElem_mem (by omega))).1
                    have hlS : Wh.lt D[s].1 D[s + 1].1 = true := Wh.same_lt (List.pairwise_iff_getElem.1 HDu.out s (s + 1) (by omega) hpl (by omega)) (by rw [hdS, HD1.out])
                    have hbl : Op.bytesLess D[s].1.toList D[s + 1].1.toList = true := hlS
                    clear hdS hlS HD1 HD2 HD3
                    generalize D[s].1 = ds at *
                    generalize D[s + 1].1 = dp at *
                    go_upto_region 36 with fail
                    go_quiet (fail)
                    go_wp2
                    go_roundw
                    case rel => exact ⟨s + 2, by omega, by simp; omega, HG5.out.drewN _⟩
                    case measure => simp [intOf]; omega
            · obtain rfl : p = D.length := by omega
              have HW4 := Lib.hid (HW2.out.grow HG4.out)
              have HR4 := Lib.hid (HR2.out.gr HG4.out)
              go_wp2
              go_roundw
              case rel => exact ⟨x + 1, S3, V3, by omega, by omega, by rw [← HUl.out]; simp, HW4.out, HR4.out⟩
              case measure => rw [now_of HW4.out, now_of HW.out]; omega
        · have hxl' : ¬ (x : Int) < (lst : Int) := by omega
          obtain ⟨eu, ep⟩ := Wh.all_upto (L := L) (x := x) (fun y hy => Nat.le_trans (HMx.out y hy) (by omega))
          have hlM : (upto L x).length = M.length := by rw [eu]; exact HPm.out.length_eq.symm
          have HAl := Lib.hid (all_any HW.out.wa HW.out.iv)
          rw [ep] at HAl
          rw [hlM]
          clear eu ep hlM
          go_wp2_with fail
          refine HNw.out.mono ?_
          rintro e w' ⟨rfl, hw⟩
          obtain rfl := hw.symm
          clear hw
          go_wp2_with fail
          refine HAl.out.mono ?_
          rintro e w9 ⟨v, rfl, hr9, hg9⟩
          obtain ⟨a9', c9', rfl⟩ := own_slice hr9
          have HG9 := Lib.hid (HW.out.gr.trans hg9)
          have HAw := Lib.hid (awake_any w9 (HT.out.gr HG9.out))
          clear hr9 hg9 HAl HNw
          go_wp2_with fail
          refine HAw.out.mono ?_
          rintro e w10 ⟨rfl, hg10⟩
          have HG10 := Lib.hid (HG9.out.trans hg10)
          clear hg10
          go_wp2
          go_ret
          exact ⟨rfl, HG10.out⟩
end Go.Proofs.YtmgiiofjlgchfaaDoor
