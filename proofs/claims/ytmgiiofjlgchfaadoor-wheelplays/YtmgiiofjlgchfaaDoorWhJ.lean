
/- wheel: come. -/
import Derived.Test.YtmgiiofjlgchfaaDoorWhI
import Derived.Test.YtmgiiofjlgchfaaDoorRegL
import Derived.WalkMore
import Derived.Deep.DeepCutAuto
namespace Go.Proofs.YtmgiiofjlgchfaaDoor
open Go.RowKit Go.Maps Go.Sort
open Wh (Tm Sl ks hasK atK del ins put dig whl Inv tlt Up low slotK fL fT fS trn)

def ComR (w w' : World) (b m u : Nat) (L : List Tm) (V : Vl) (e : Ending) : Prop :=
  ∃ v S' V', e = .returned v ∧ w'.ownsRow w.heap.size 61 2 v (Wh.due L u).length ((Wh.due L u).flatMap tmf) ∧ WAt w' b m u (Wh.left L u) S' V' ∧ Inv u (Wh.left L u) S' ∧ Tn w w' b m V V' ∧ ∀ j, v.ownBlock = some j → ¬ own b m V' j
theorem kf_len (k : ByteArray) : (kf k).length = 1 := rfl
set_option maxHeartbeats 8000000 in
set_option maxRecDepth 100000 in
theorem come_any {b m t u : Nat} {L : List Tm} {S : Sl} {V : Vl} {w : World} (h : WAt w b m u L S V) (hi : Inv t L S) (h1 : t < u) (hu : u ≤ 1000000000) (h2 : ∀ x ∈ L, u ≤ trn t x.2) (hT : Tb w) :
    Calls Tryd.prog 31 #[ptr b] w fun e w' => ComR w w' b m u L V e := by
  have hu30 : u < 2 ^ 30 := by omega
  obtain ⟨hg6, _, _⟩ := Wh.low_spec (t := u) (by omega) hu30
  have hd := Wh.dig_lt u (low u)
  have hnow := h.now
  have htz := Tryd.bits_TrailingZeros u (by omega) w (fun _ => hT)
  have hwr := w64 (u : Int) (by omega) (by omega)
  have HDg : Hid (∀ (x j : Nat) (W : World), j < 6 → Calls Tryd.prog 36 #[.int .i64 (x : Int), .int .i64 (j : Int)] W fun e w' => e = .returned (.int .i64 (dig x j : Int)) ∧ w' = W) := fun x j W hj => digit_any hj W
  obtain ⟨z, HZ⟩ : ∃ z, Hid (z = Lib.ctz 64 u) := ⟨_, rfl⟩
  rw [← HZ.out] at htz
  have hzg : (z : Int) / 5 = (low u : Int) := by unfold low; rw [← HZ.out]; omega
  -- the keys of the slot
  obtain ⟨ad, cap, hv, hlc, hrow, hadb⟩ := row_strs (h.row (low u) (dig u (low u)) hg6 hd)
  change (slotK S u).length ≤ cap at hlc
  have hkl : ∀ a, ad = some a → a.block < w.heap.size := fun a e => ((h.row (low u) (dig u (low u)) hg6 hd).lt _ (hadb a e)).2
  have HKl : Hid (∀ a, ad = some a → a.block < w.heap.size) := hkl
  have HSt : Hid (∀ n, CmI w b m u L S V (slotK S u) ad ((w.drewN n).setCell ⟨b, 2 + low u * 32 + dig u (low u), none⟩ (.slice none 0 0)) [] (slotK S u) (setV V (low u) (dig u (low u)) (.slice none 0 0)) (.slice none 0 0)) := fun n => by
    obtain ⟨q1, q2, q3, q4, q5, q6, q7⟩ := CmI.start (h.drewN n) hg6 hv (hrow.gr ((Gr.refl w).drewN n))
    exact ⟨q1, q2, q3, (Tn.gr ((Gr.refl w).drewN n)).trans q4, q5, q6, q7⟩
  have hsc : ∀ n, (w.drewN n).cell? ⟨b, 2 + low u * 32 + dig u (low u), none⟩ = some (.slice ad (slotK S u).length cap) := fun n => by rw [(h.drewN n).sl _ _ hg6 hd, hv]; rfl
  have hsf : ∀ n, (w.drewN n).frozen? ⟨b, 2 + low u * 32 + dig u (low u), none⟩ = false := fun n => (h.drewN n).fz _ (by omega)
  have hKn : (slotK S u).length ≤ 200 := hi.len _ _
  -- what is known of each key
  have HK : Hid (∀ k ∈ slotK S u, (k, atK L k) ∈ L ∧ k.size ≤ 100 ∧ atK L k ≤ 1000000000 ∧ atK L k / 32 ^ low u = u / 32 ^ low u) := fun k hk => by
    have hm := Wh.slot_mem hi hk
    exact ⟨hm, (hi.ok.size _ hm).2, (hi.ok.ahead _ hm).2, (Wh.slot_eq hi h1 h2 hk).1⟩
  have HEnd : Hid (fL L u (slotK S u) = Wh.left L u ∧ (fT L u (slotK S u)).Perm (Wh.due L u) ∧ Up (Wh.due L u) ∧ Inv u (Wh.left L u) (fS L S u (slotK S u)) ∧ (Wh.due L u).length ≤ 200) :=
    ⟨Wh.come_left hi h1 h2, Wh.come_due hi h1 h2, Wh.due_up hi.ok, Wh.come_inv hi h1 hu h2, Nat.le_trans (List.length_filter_le _ _) hi.ok.few⟩
  have HLen : Hid (∀ g d, (S g d).length ≤ 200) := fun g d => hi.len g d
  have HN : Hid ((ks L).Nodup ∧ (slotK S u).Nodup) := ⟨hi.ok.nd, Wh.slot_nd hi _ _⟩
  obtain ⟨K, eK⟩ : ∃ K, K = slotK S u := ⟨_, rfl⟩
  rw [← eK] at HSt hsc hKn HK HEnd HN hlc
  obtain ⟨g, HG⟩ : ∃ g, Hid (g = low u) := ⟨_, rfl⟩
  rw [← HG.out] at HSt hsc hsf HK hg6 hzg hd
  obtain ⟨d, HD⟩ : ∃ d, Hid (d = dig u g) := ⟨_, rfl⟩
  have HD1 := HDg.out u g
  rw [← HD.out] at HSt hsc hsf hd HD1
  obtain ⟨i0, hi0, hz0, hz1, hz2⟩ := info_parts infoStr
  obtain ⟨j0, hj0, hy0, hy1, hy2⟩ := info_parts infoTm
  clear h hi h2 hT hv hrow hadb hkl eK HG HD HZ
  go_enter Tryd.func31, Tryd.ntmps31
  go_wp2
  go_step3
  go_wp2_with (go_at_call 38; refine htz.mono ?_; rintro e w' ⟨rfl, hw⟩; obtain rfl := hw.symm; clear hw)
  go_quiet ((go_at_call 36; exact Calls.quiet_of_same (HD1 _ hg6)))
  have hsc1 := hsc nq
  have hsf1 := hsf nq
  have HS1 := HSt.out nq
  have HS2 : Hid (CmI w b m u L S V K ad ((w.drewN nq).setCell ⟨b, 2 + g * 32 + d, none⟩ (.slice none 0 0)) [] K (setV V g d (.slice none 0 0)) (.slice none 0 0)) := HS1
  clear hsc hsf HSt HS1 htz
  go_wp2
  go_step3
  go_wp2
  clear hsc1 hsf1 hnow
  go_loopw [6, 38] (fun v6 i wr => ∃ (K1 K2 : List ByteArray) (V1 : Vl), i = .int .i64 (K1.length : Int) ∧ CmI w b m u L S V K ad wr K1 K2 V1 v6) (fun _ i _ => K.length - (intOf i).toNat)
  case atStart => exact ⟨[], K, _, rfl, HS2.out⟩
  case round =>
    obtain ⟨K1, K2, V1, rfl, hI⟩ := hrel
    have HI : Hid (CmI w b m u L S V K ad wr K1 K2 V1 u6) := hI
    clear hI HS2
    cases K2 with
    | nil =>
      have HKe : Hid (K = K1) := by show K = K1; have := HI.out.eq; simpa using this
      have hnl : ¬ (K1.length : Int) < (K.length : Int) := by rw [HKe.out]; omega
      have hnl2 : ¬ K1.length < K.length := by rw [HKe.out]; omega
      have HI2 : Hid (CmI w b m u L S V K1 ad wr K1 [] V1 u6) := by have := HI.out; rw [HKe.out] at this; exact this
      rw [HKe.out] at HEnd
      have hsr := sortT_any HI2.out.tr HEnd.out.2.1 HEnd.out.2.2.1 (by rw [HEnd.out.2.1.length_eq]; have := HEnd.out.2.2.2.2; omega)
      clear HI
      go_wp2_with (go_at_call 33; refine hsr.mono ?_; rintro e w9 ⟨rfl, q1, q2⟩)
      have HF : Hid (ComR w w9 b m u L V (.returned u6)) := by
        have hw := HI2.out.wa
        rw [HEnd.out.1] at hw
        exact ⟨u6, _, V1, rfl, q1, hw.grown q2 HI2.out.off, HEnd.out.2.2.2.1, HI2.out.tn.grown_new q2 (fun j hj => (HI2.out.tr.lt j hj).1), HI2.out.off⟩
      clear q1 q2 hsr
      go_wp2
      try rw [Exit.noGoto_ret]
      go_ret
      exact HF.out
    | cons k K2 =>
      have heq := HI.out.eq
      have hlt : K1.length < K.length := by rw [heq]; simp
      have hkK : K[K1.length] = k := by
        have : K[K1.length]? = some k := by rw [heq]; simp
        rw [List.getElem?_eq_getElem hlt] at this
        injection this
      have hmem : k ∈ K := by rw [heq]; simp
      have hnk : k ∉ K1 := by
        have := HN.out.2
        rw [heq, List.nodup_append] at this
        intro hc
        exact this.2.2 k hc k (by simp) rfl
      obtain ⟨hkL, hks, hka, hkd⟩ := HK.out k hmem
      obtain ⟨x, off, hade, hxb, hxc⟩ := HI.out.row K1.length (.string k) (by
        have := flat_get kf_len K K1.length hlt 0 (by omega)
        rw [Nat.mul_one, Nat.add_zero] at this
        rw [this, hkK]; rfl)
      have HAd : Hid (∀ j, u6.ownBlock = some j → j ≠ x) := fun j hj e => by
        have h3 := (HI.out.tr.lt j hj).1
        have h4 := HKl.out _ hade
        simp only at h4
        omega
      have hhas : hasK (fL L u K1) k = true := Wh.hasK_of (Wh.fL_at HN.out.1 (Wh.hasK_of hkL) hnk)
      have hnd1 : (ks (fL L u K1)).Nodup := Wh.ks_sub List.filter_sublist HN.out.1
      have hatk : atK (fL L u K1) k = atK L k := by
        have := Wh.atK_of hnd1 (Wh.fL_at (u := u) HN.out.1 (Wh.hasK_of hkL) hnk)
        simpa using this
      have hlk := (HI.out.wa.due.look hnd1 Tryd.underlying51 k (by omega)).2
      rw [hatk] at hlk
      have hmp := HI.out.wa.mp
      have hnw := HI.out.wa.now
      have HHas : Hid (hasK (fL L u K1) k = true ∧ (ks (fL L u K1)).Nodup) := ⟨hhas, hnd1⟩
      have HEq : Hid (K = K1 ++ k :: K2) := heq
      obtain ⟨a, HA⟩ : ∃ a, Hid (a = atK L k) := ⟨_, rfl⟩
      rw [← HA.out] at hlk hka hkd
      have HDv : Hid (a / 32 ^ g = u / 32 ^ g) := hkd
      subst hade
      clear heq hkK hmem hnk hkL hhas hnd1 hatk hkd
      go_wp2
      go_loop [10, 11] (fun v _ => ∃ i : Nat, i ≤ g ∧ v = .int .i64 ((i : Int) - 1) ∧ a / 32 ^ i = u / 32 ^ i) (fun v _ => (intOf v + 1).toNat)
      case atStart => exact ⟨g, Nat.le_refl _, rfl, HDv.out⟩
      case round =>
        obtain ⟨i, hig, rfl, hie⟩ := hrel
        have HIe : Hid (a / 32 ^ i = u / 32 ^ i) := hie
        clear hie hlk
        cases i with
        | zero =>
          have HAu : Hid (a = u) := by show a = u; have := HIe.out; simpa using this
          rw [show ((0 : Nat) : Int) - 1 = -1 by omega]
          obtain ⟨w2, hr2, hd2, hg2, hs2⟩ := HI.out.wa.due.drop HHas.out.2 Tryd.underlying51 (k := k) (by omega) HHas.out.1 0
          have HAk : Hid (atK L k = u) := by show atK L k = u; rw [← HA.out]; exact HAu.out
          have HW2 : Hid (WAt (w2.alloc (.cells #[.string k, .int .i64 (a : Int)] 61)) b m u (fL L u (K1 ++ [k])) (fS L S u (K1 ++ [k])) V1) := by
            show WAt _ _ _ _ _ _ _
            rw [Wh.fL_come HN.out.1 HAk.out, Wh.fS_come HAk.out]
            exact (HI.out.wa.setDue hg2 hd2).gr (Gr.refl _).alloc
          have HT2 : Hid (Tn wr (w2.alloc (.cells #[.string k, .int .i64 (a : Int)] 61)) b m V1 V1) := (Tn.of_grown hg2 (fun j hj => by cases hj; exact Or.inl (Or.inr (Or.inl rfl)))).gr' (Gr.refl _).alloc
          have HR2 : Hid (World.ownsRow (w2.alloc (.cells #[.string k, .int .i64 (a : Int)] 61)) w.heap.size 61 2 u6 (fT L u K1).length ((fT L u K1).flatMap tmf)) := row_keep HI.out.tr (fun j hj => HT2.out.block j (HI.out.tr.lt j hj).2 (HI.out.off j hj))
          have hfl : (fT L u K1).length ≤ 200 := by
            unfold fT
            rw [List.length_map]
            have := List.length_filter_le (fun k => decide (atK L k = u)) K1
            omega
          have hsz2 : w.heap.size ≤ w2.heap.size := Nat.le_trans HI.out.tn.size hg2.size
          clear hd2 hg2 hs2
          go_wp2_with (first
            | (at_builtin; refine wpList_append_own_at _ rfl _ _ 36 rfl w.heap.size 61 j0 (.agg #[.string ⟨#[]⟩, .int .i64 0]) 2 24 Tryd.underlying36 hj0 hy0 hy1 hy2 rfl (by decide) _ _ _ rfl HR2.out ⟨w2.heap.size, 0, none⟩ 1 1 [.string k, .int .i64 (a : Int)] rfl rfl (cells_two rfl) (by intro u hu; simp at hu; rcases hu with rfl | rfl <;> rfl) (by unfold maxLen; omega) (by omega) (by simp; omega) ?_; intro v' w4 hown hgrow hnil hloc
               have HI4 : Hid (CmI w b m u L S V K (some ⟨x, off, none⟩) w4 (K1 ++ [k]) K2 V1 v') := HI.out.told HW2.out HT2.out hgrow (by
                 rw [Wh.fT_come HAk.out, List.flatMap_append, List.length_append]
                 rw [HAu.out] at hown
                 exact hown) hloc (fun a e h => by cases e; exact HAd.out _ h rfl)
               clear hown hgrow hnil hloc HR2)
            | go_in)
          go_roundw
          case rel => exact ⟨K1 ++ [k], K2, V1, by simp, HI4.out⟩
          case measure => simp [intOf]; omega
        | succ j =>
          rw [show ((j + 1 : Nat) : Int) - 1 = (j : Int) by omega]
          have hj6 : j < 6 := by omega
          go_wp2_with fail
          refine (HDg.out a j wr hj6).mono ?_
          rintro e w' ⟨rfl, hw⟩
          obtain rfl := hw.symm
          clear hw
          go_wp2_with fail
          refine (HDg.out u j wr hj6).mono ?_
          rintro e w' ⟨rfl, hw⟩
          obtain rfl := hw.symm
          clear hw
          by_cases hdd : dig a j = dig u j
          · have hbb : ((dig a j : Int) != (dig u j : Int)) = false := by rw [hdd]; simp
            have HN1 : Hid (a / 32 ^ j = u / 32 ^ j) := Wh.eq_of_dig HIe.out hdd
            clear hdd
            generalize dig a j = x1 at *
            generalize dig u j = x2 at *
            go_wp2
            go_round
            case rel => exact ⟨j, by omega, rfl, HN1.out⟩
            case measure => simp [intOf]
          · have hbb : ((dig a j : Int) != (dig u j : Int)) = true := by simp; omega
            have hwl := Wh.whl_of_in (Wh.in_of_dig HIe.out hdd) (by omega) hu30
            have HNe : Hid (atK L k ≠ u) := by show atK L k ≠ u; rw [← HA.out]; exact fun e => hdd (by rw [e])
            have HWl : Hid (whl u (atK L k) = j ∧ dig (atK L k) j = dig a j) := by rw [← HA.out]; exact ⟨hwl, rfl⟩
            have hx1 := Wh.dig_lt a j
            have HWA : Hid (WAt (wr.alloc (.cells #[.string k] 9)).drew b m u (fL L u K1) (fS L S u K1) V1) := HI.out.wa.gr (Gr.refl _).alloc.drew
            have HTA : Hid (Tn wr (wr.alloc (.cells #[.string k] 9)).drew b m V1 V1) := Tn.gr (Gr.refl _).alloc.drew
            generalize dig a j = x1 at *
            generalize dig u j = x2 at *
            have hfl : (fS L S u K1 j x1).length ≤ 400 := by
              unfold fS
              rw [List.length_append]
              have h3 := List.length_filter_le (fun k => decide (atK L k ≠ u) && Wh.here u j x1 (k, atK L k)) K1
              have h4 : (put S (low u) (dig u (low u)) [] j x1).length ≤ 200 := by
                unfold Wh.put
                split
                · simp
                · exact HLen.out _ _
              omega
            have hcl := HI.out.wa.sl j x1 hj6 hx1
            have hbl := HI.out.wa.lt
            have HNext : Hid (∀ v' w6, w6.ownsRow 0 9 1 v' ((fS L S u K1 j x1).length + 1) (strs (fS L S u K1 j x1) ++ [.string k]) → World.grownBy (wr.alloc (.cells #[.string k] 9)).drew w6 (V1 j x1).ownBlock → (v'.ownBlock = (V1 j x1).ownBlock ∨ v'.ownBlock = some (World.heap (wr.alloc (.cells #[.string k] 9)).drew).size) →
                w6.frozen? ⟨b, 2 + j * 32 + x1, none⟩ = false ∧ w6.cell? ⟨b, 2 + j * 32 + x1, none⟩ = some (V1 j x1) ∧ CmI w b m u L S V K (some ⟨x, off, none⟩) (w6.setCell ⟨b, 2 + j * 32 + x1, none⟩ v') (K1 ++ [k]) K2 (setV V1 j x1 v') u6) := by
              intro v' w6 hown hgrow hloc
              have HS := append_slot HWA.out hj6 hx1 hgrow hown hloc
              obtain ⟨hf6, hc6⟩ := HWA.out.slotF hj6 hx1 hgrow
              refine ⟨hf6, hc6, HI.out.next ?_ (Wh.fT_fall HNe.out) (HTA.out.trans HS.out.2)⟩
              rw [Wh.fL_fall HN.out.1 HNe.out, Wh.fS_fall HNe.out HWl.out.1, HWl.out.2]
              exact HS.out.1
            have HRA : Hid (World.ownsRow (wr.alloc (.cells #[.string k] 9)).drew 0 9 1 (V1 j x1) (fS L S u K1 j x1).length (strs (fS L S u K1 j x1))) := HWA.out.row j x1 hj6 hx1
            have hj6' : (j : Int) < 6 := by omega
            have hx1' : (x1 : Int) < 32 := by omega
            clear hdd hwl HWA HTA hmp hnw hxc
            generalize strs (fS L S u K1 j x1) = xs at *
            generalize (fS L S u K1 j x1).length = nl at *
            generalize setV V1 j x1 = sv at *
            generalize V1 j x1 = vj at *
            go_upto_region 15 with fail
            have hk : wr.drew.cell? ⟨b, 2 + j * 32 + x1, none⟩ = some vj := hcl
            refine beginL 18 (fun w' => w'.cell? ⟨b, 2 + j * 32 + x1, none⟩ = some vj) (by kernel_rfl) (by first | with_reducible exact hk | with_reducible exact (Gr.refl _).alloc.drew.keep hcl) (fun hHeld => ?_)
            refine takeW 0 65 (v := ?_) rfl rfl (by decide) (by kernel_rfl) (by kernel_rfl) (by kernel_rfl) (fun _ _ _ h => h) (by rfl) ?_ (fun _ => hHeld) ?_
            rotate_left
            · (intro w; (try intro hSw); (try dsimp only at hSw); go_simp; try with_reducible rfl)
            simp only [Act.put, List.setIfInBounds_toArray, List.set_cons_zero, List.set_cons_succ]
            refine takeW 1 66 (v := ?_) rfl rfl (by decide) (by kernel_rfl) (by kernel_rfl) (by kernel_rfl) (fun _ _ _ h => h) (by rfl) ?_ (fun _ => hHeld) ?_
            rotate_left
            · (intro w; (try intro hSw); (try dsimp only at hSw); go_simp; try with_reducible rfl)
            simp only [Act.put, List.setIfInBounds_toArray, List.set_cons_zero, List.set_cons_succ]
            refine takeW 2 67 (v := ?_) rfl rfl (by decide) (by kernel_rfl) (by kernel_rfl) (by kernel_rfl) (fun _ _ _ h => h) (by rfl) ?_ (fun _ => hHeld) ?_
            rotate_left
            · (intro w; (try intro hSw); (try dsimp only at hSw); go_simp; try with_reducible rfl)
            simp only [Act.put, List.setIfInBounds_toArray, List.set_cons_zero, List.set_cons_succ]
            refine takeW 3 68 (v := ?_) rfl rfl (by decide) (by kernel_rfl) (by kernel_rfl) (by kernel_rfl) (fun _ _ _ h => h) (by rfl) ?_ (fun _ => hHeld) ?_
            rotate_left
            · (intro w; (try intro hSw); (try dsimp only at hSw); go_simp; try with_reducible rfl)
            simp only [Act.put, List.setIfInBounds_toArray, List.set_cons_zero, List.set_cons_succ]
            refine takeW 4 69 (v := ?_) rfl rfl (by decide) (by kernel_rfl) (by kernel_rfl) (by kernel_rfl) (fun _ _ _ h => h) (by rfl) ?_ (fun _ => hHeld) ?_
            rotate_left
            · (intro w; (try intro hSw); (try dsimp only at hSw); go_simp; try with_reducible rfl)
            simp only [Act.put, List.setIfInBounds_toArray, List.set_cons_zero, List.set_cons_succ]
            refine takeW 5 70 (v := ?_) rfl rfl (by decide) (by kernel_rfl) (by kernel_rfl) (by kernel_rfl) (fun _ _ _ h => h) (by rfl) ?_ (fun _ => hHeld) ?_
            rotate_left
            · (intro w; (try intro hSw); (try dsimp only at hSw); go_simp; try with_reducible rfl)
            simp only [Act.put, List.setIfInBounds_toArray, List.set_cons_zero, List.set_cons_succ]
            refine takeW 6 71 (v := ?_) rfl rfl (by decide) (by kernel_rfl) (by kernel_rfl) (by kernel_rfl) (fun _ _ _ h => h) (by rfl) ?_ (fun _ => hHeld) ?_
            rotate_left
            · (intro w; (try intro hSw); (try dsimp only at hSw); go_simp; try with_reducible rfl)
            simp only [Act.put, List.setIfInBounds_toArray, List.set_cons_zero, List.set_cons_succ]
            refine takeW 7 72 (v := ?_) rfl rfl (by decide) (by kernel_rfl) (by kernel_rfl) (by kernel_rfl) (fun _ _ _ h => h) (by rfl) ?_ (fun _ => hHeld) ?_
            rotate_left
            · (intro w; (try intro hSw); (try dsimp only at hSw); go_simp; try with_reducible rfl)
            simp only [Act.put, List.setIfInBounds_toArray, List.set_cons_zero, List.set_cons_succ]
            refine takeW 8 73 (v := ?_) rfl rfl (by decide) (by kernel_rfl) (by kernel_rfl) (by kernel_rfl) (fun _ _ _ h => h) (by rfl) ?_ (fun _ => hHeld) ?_
            rotate_left
            · (intro w; (try intro hSw); (try dsimp only at hSw); go_simp; try with_reducible rfl)
            simp only [Act.put, List.setIfInBounds_toArray, List.set_cons_zero, List.set_cons_succ]
            refine takeW 9 74 (v := ?_) rfl rfl (by decide) (by kernel_rfl) (by kernel_rfl) (by kernel_rfl) (fun _ _ _ h => h) (by rfl) ?_ (fun _ => hHeld) ?_
            rotate_left
            · (intro w; (try intro hSw); (try dsimp only at hSw); go_simp; try with_reducible rfl)
            simp only [Act.put, List.setIfInBounds_toArray, List.set_cons_zero, List.set_cons_succ]
            refine takeS 10 75 (v := ?_) rfl rfl (by decide) (by kernel_rfl) (by kernel_rfl) (by kernel_rfl) (by kernel_rfl) (by kernel_rfl) (fun _ _ _ h => h) (by rfl) ?_ hHeld ?_
            rotate_left
            · (intro w; (try intro hSw); (try dsimp only at hSw); go_simp; try with_reducible rfl)
            simp only [Act.put, List.setIfInBounds_toArray, List.set_cons_zero, List.set_cons_succ]
            refine takeW 11 76 (v := ?_) rfl rfl (by decide) (by kernel_rfl) (by kernel_rfl) (by kernel_rfl) (fun _ _ _ h => h) (by rfl) ?_ (fun _ => hHeld) ?_
            rotate_left
            · (intro w; (try intro hSw); (try dsimp only at hSw); go_simp; try with_reducible rfl)
            simp only [Act.put, List.setIfInBounds_toArray, List.set_cons_zero, List.set_cons_succ]
            refine takeW 14 79 (v := ?_) rfl rfl (by decide) (by kernel_rfl) (by kernel_rfl) (by kernel_rfl) (fun _ _ _ h => h) (by rfl) ?_ (fun _ => hHeld) ?_
            rotate_left
            · (intro w; (try intro hSw); (try dsimp only at hSw); go_simp; try with_reducible rfl)
            simp only [Act.put, List.setIfInBounds_toArray, List.set_cons_zero, List.set_cons_succ]
            refine takeW 15 80 (v := ?_) rfl rfl (by decide) (by kernel_rfl) (by kernel_rfl) (by kernel_rfl) (fun _ _ _ h => h) (by rfl) ?_ (fun _ => hHeld) ?_
            rotate_left
            · (intro w; (try intro hSw); (try dsimp only at hSw); go_simp; try with_reducible rfl)
            simp only [Act.put, List.setIfInBounds_toArray, List.set_cons_zero, List.set_cons_succ]
            refine takeW 16 81 (v := ?_) rfl rfl (by decide) (by kernel_rfl) (by kernel_rfl) (by kernel_rfl) (fun _ _ _ h => h) (by rfl) ?_ (fun _ => hHeld) ?_
            rotate_left
            · (intro w; (try intro hSw); (try dsimp only at hSw); go_simp; try with_reducible rfl)
            simp only [Act.put, List.setIfInBounds_toArray, List.set_cons_zero, List.set_cons_succ]
            refine stepC 12 (by kernel_rfl) rfl (fun K hK => ?_)
            go_simp
            refine hK.out _ _ (by first | with_reducible exact hk | with_reducible exact (Gr.refl _).alloc.drew.keep hcl) (fun hHeldN => ?_)
            clear hHeld hK K
            have hHeld := hHeldN
            clear hHeldN
            refine stepC 13 (by kernel_rfl) rfl (fun K hK => ?_)
            (refine step_append_at (by rfl) _ _ 52 (by rfl) 0 9 i0 (.string ⟨#[]⟩) 1 16 Tryd.underlying52 hi0 hz0 hz1 hz2 rfl (by decide) _ _ _ (by rfl) HRA.out ⟨wr.heap.size, 0, none⟩ 1 1 [.string k] (by rfl) (by rfl) (fun j u hu => cell_one (w := wr) (T := 9) rfl j u hu) (by intro u hu; simp at hu; subst hu; rfl) (by unfold maxLen; omega) (by omega) (by omega) ?_; intro v6 w6 ho6 hgr6 hloc6; obtain ⟨hf6, hc6, hI6⟩ := HNext.out v6 w6 ho6 hgr6 hloc6; replace hk := hc6)
            refine hK.out (Act.put _ (some 78) v6) _ (by first | with_reducible exact hk | with_reducible exact (Gr.refl _).alloc.drew.keep hcl) (fun hHeldN => ?_)
            clear hHeld hK K
            have hHeld := hHeldN
            clear hHeldN
            simp only [Act.put, List.setIfInBounds_toArray, List.set_cons_zero, List.set_cons_succ]
            obtain ⟨ad', c', rfl⟩ := own_slice ho6
            have HI4 := Lib.hid hI6
            clear ho6 hgr6 hloc6 HNext HRA hI6
            refine takeW 17 82 (v := ?_) rfl rfl (by decide) (by kernel_rfl) (by kernel_rfl) (by kernel_rfl) (fun _ _ _ h => h) (by rfl) ?_ (fun _ => hHeld) ?_
            rotate_left
            · (intro w; (try intro hSw); (try dsimp only at hSw); go_simp; try with_reducible rfl)
            simp only [Act.put, List.setIfInBounds_toArray, List.set_cons_zero, List.set_cons_succ]
            refine stepS (by kernel_rfl) rfl (by kernel_rfl) (fun K hK => ?_)
            go_simp
            refine hK.out _ _ ?_
            clear hHeld hK K
            refine doneL (by kernel_rfl) ?_ _
            go_wp2
            go_roundw
            case rel => exact ⟨K1 ++ [k], K2, _, by simp, HI4.out⟩
            case measure => simp [intOf]; omega
end Go.Proofs.YtmgiiofjlgchfaaDoor
