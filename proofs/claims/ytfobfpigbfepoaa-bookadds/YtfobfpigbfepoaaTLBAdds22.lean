/- For every input the law BookAdds answers true: to any definitions any others are added as the document says, or refused; those that came in stay. -/
import Derived.Test.YtfobfpigbfepoaaTLBAdds21
import Derived.Deep.DeepCutAuto
namespace Go.Proofs.Ytfobfpigbfepoaa
open Go.RowKit
def AfR (w : World) (B : List Bk.Dn) (z : Int) (e : Ending) (w' : World) : Prop :=
  ∃ a c R, e = .returned (.tuple #[.slice a R.length c, .int .i64 z]) ∧ BkAt w' a R ∧ dns R = B ∧ Gr w w'
set_option maxHeartbeats 8000000 in
set_option maxRecDepth 100000 in
theorem refAdd_any (D M : List Dm) (ad : Option Addr) (cap : Nat) (adM : Option Addr) (capM : Nat) (w : World) (hB : BkAt w ad D) (hM : BkAt w adM M) (hn : D.length ≤ 9223372036854775807) (hm : M.length ≤ 9223372036854775807) (hcap : ad = none → cap = 0) (hlc : D.length ≤ cap) (hc63 : cap ≤ 9223372036854775807) :
    Calls Try.prog 14 #[.slice ad D.length cap, .slice adM M.length capM] w fun e w' => AfR w (AdD (dns D) (dns M)) (AdE (dns D) (dns M)) e w' := by
  have HMa : Hid (∀ w', Gr w w' → Calls Try.prog 11 #[.slice ad D.length cap] w' fun e w2 => e = .returned (.int .i64 (Bk.mayE (dns D))) ∧ Gr w' w2) := fun w' g => refMay_any D ad cap w' (hB.gr g) hn
  cases hmay : Bk.mayB (dns D) with
  | false =>
    have e1 : AdD (dns D) (dns M) = [] := by unfold AdD; rw [hmay]; rfl
    have e2 : AdE (dns D) (dns M) = 2 := by unfold AdE; rw [hmay]; rfl
    rw [e1, e2]
    rw [Bk.may_not hmay] at HMa
    clear hmay e1 e2 hB hM
    go_enter Try.func14, Try.ntmps14
    go_wp2_with fail
    refine (HMa.out _ (by repeat (first | exact Gr.refl _ | refine Gr.alloc ?_ | refine Gr.drew ?_ | refine Gr.trans ?_ (by assumption)))).mono ?_
    rintro e w1 ⟨rfl, hg1⟩
    go_wp2
    go_ret2
    exact ⟨none, 0, [], rfl, BkAt.nil, rfl, (by (repeat' (first | with_reducible exact Gr.refl _ | with_reducible refine Gr.set ?_ _ ?_ _ | with_reducible refine Gr.alloc ?_ | with_reducible refine Gr.drew ?_ | with_reducible refine Gr.trans ?_ (by assumption))) <;> (first | (simp; done) | (simp; omega) | omega))⟩
  | true =>
    have HE1 : Hid (AdD (dns D) (dns M) = Bk.addD (dns D) (dns M)) := by show _ = _; unfold AdD; rw [hmay]; rfl
    have HE2 : Hid (AdE (dns D) (dns M) = Bk.addE (dns D) (dns M)) := by show _ = _; unfold AdE; rw [hmay]; rfl
    rw [Bk.may_ok hmay] at HMa
    have HD := Lib.hid hB
    have HMr := Lib.hid hM
    have HMay : Hid (Bk.mayB (dns D) = true) := hmay
    clear hmay hB hM
    go_enter Try.func14, Try.ntmps14
    go_wp2_with fail
    refine (HMa.out _ (by repeat (first | exact Gr.refl _ | refine Gr.alloc ?_ | refine Gr.drew ?_ | refine Gr.trans ?_ (by assumption)))).mono ?_
    rintro e w1 ⟨rfl, hg1⟩
    have HG1 : Hid (Gr w w1) := (by repeat (first | exact Gr.refl _ | refine Gr.alloc ?_ | refine Gr.drew ?_ | refine Gr.trans ?_ (by assumption)))
    clear hg1 HMa
    go_wp2
    go_loopw [6, 7] (fun s6 s7 wr => ∃ (k : Nat) (a : Option Addr) (c : Nat) (R : List Dm), s7 = .int .i64 k ∧ s6 = .slice a R.length c ∧ k ≤ M.length ∧ Bk.addE (dns D) ((dns M).take k) = 0 ∧ dns R = Bk.addD (dns D) ((dns M).take k) ∧ BkAt wr a R ∧ (a = none → c = 0) ∧ R.length ≤ c ∧ c ≤ 9223372036854775807 ∧ Gr w wr) (fun _ s7 _ => M.length - (intOf s7).toNat)
    case atStart => exact ⟨0, ad, cap, D, rfl, rfl, Nat.zero_le _, by rw [List.take_zero]; rfl, by rw [List.take_zero]; rfl, HD.out.gr HG1.out, hcap, hlc, hc63, HG1.out⟩
    case round =>
      clear HG1 HD
      obtain ⟨k, a, c, R, rfl, rfl, hk, hA, hRD, hbk, hrn, hrl, hr63, hg⟩ := hrel
      have hmR : Bk.mayB (dns R) = true := by rw [hRD]; exact Bk.add_may _ _ HMay.out hA
      by_cases hlt : k < M.length
      · obtain ⟨b, off, rfl, hb, d0, d1⟩ := DmsAt.at HMr.out.row k hlt
        have HD0 := Lib.hid d0
        have HD1 := Lib.hid d1
        have d0 := hg.keep d0
        have d1 := hg.keep d1
        have hbw : b < wr.heap.size := Nat.lt_of_lt_of_le hb hg.size
        have hki : (k : Int) < (M.length : Int) := by omega
        have hrg := HMr.out.rng _ (List.getElem_mem hlt)
        have HCh : Hid (∀ w', Gr w w' → Calls Try.prog 20 #[.agg #[.string M[k].nm, .slice M[k].ad M[k].L.length M[k].cap]] w' fun e w2 => e = .returned (.int .i64 (Df.chE M[k].nm M[k].L)) ∧ Gr w' w2) := fun w' g => refDCheck_any M[k].nm M[k].L M[k].ad M[k].cap w' ((HMr.out.st _ (List.getElem_mem hlt)).gr g) hrg.1 hrg.2.1 hrg.2.2
        have HPt : Hid (Bk.okB M[k].dn = true → ∀ w', Gr wr w' → Calls Try.prog 22 #[.slice a R.length c, .agg #[.string M[k].nm, .slice M[k].ad M[k].L.length M[k].cap]] w' fun e w2 => PuF w' (dns R) M[k].dn e w2) := fun hok w' g => refPut_any R M[k] a c w' (hbk.gr g) hrn hrl hr63 hmR ((HMr.out.st _ (List.getElem_mem hlt)).gr (hg.trans g)) hrg hok
        have HSt : Hid (Bk.addE (dns D) ((dns M).take (k + 1)) = Bk.putE (dns R) M[k].dn ∧ (Bk.putE (dns R) M[k].dn = 0 → Bk.addD (dns D) ((dns M).take (k + 1)) = Bk.ins (dns R) M[k].dn)) := by
          have := Bk.add_step (dns D) (dns M) k (by rw [dns_len]; exact hlt) hA
          rw [← hRD, dns_get M k hlt] at this
          exact this
        have HNo : Hid (Bk.putE (dns R) M[k].dn ≠ 0 → AdE (dns D) (dns M) = Bk.putE (dns R) M[k].dn ∧ AdD (dns D) (dns M) = []) := by
          intro hp
          have h1 := Bk.add_stop (dns D) (dns M) k (by rw [dns_len]; exact hlt) hA
          rw [← hRD, dns_get M k hlt] at h1
          have h2 := h1 hp
          exact ⟨HE2.out.trans h2, HE1.out.trans (Bk.add_no _ _ (by rw [h2]; exact hp))⟩
        have HG : Hid (Gr w wr) := hg
        clear hg hbk hmR hA hRD hrg hrn hrl hr63
        generalize M[k] = x at *
        obtain ⟨xn, xa, xc, xl⟩ := x
        dsimp only at *
        cases hok : Bk.okB (⟨xn, xa, xc, xl⟩ : Dm).dn with
        | false =>
          have hpe : Bk.putE (dns R) (⟨xn, xa, xc, xl⟩ : Dm).dn = 90 := by unfold Bk.putE; rw [hok]; rfl
          obtain ⟨n1, n2⟩ := HNo.out (by rw [hpe]; decide)
          rw [hpe] at n1
          have HN1 := Lib.hid n1
          have HN2 := Lib.hid n2
          rw [show Df.chE xn xl = 90 from Df.ch_no hok] at HCh
          clear n1 n2 HNo HSt HPt hok hpe
          go_wp2_with fail
          refine (HCh.out _ HG.out).mono ?_
          rintro e w2 ⟨rfl, hg2⟩
          have HGF : Hid (Gr w w2) := HG.out.trans hg2
          go_wp2
          go_ret2
          rw [HN1.out, HN2.out]
          exact ⟨none, 0, [], rfl, BkAt.nil, rfl, HGF.out⟩
        | true =>
          rw [show Df.chE xn xl = 0 from Df.ch_yes hok] at HCh
          have HPx := Lib.hid (HPt.out hok)
          clear HPt hok
          go_wp2_with fail
          refine (HCh.out _ HG.out).mono ?_
          rintro e w2 ⟨rfl, hg2⟩
          have gw2 : Gr w w2 := HG.out.trans hg2
          have d0 := gw2.keep HD0.out
          have d1 := gw2.keep HD1.out
          have hbw : b < w2.heap.size := Nat.lt_of_lt_of_le hb gw2.size
          go_wp2_with fail
          refine (HPx.out _ hg2).mono ?_
          rintro e w3 (⟨hp, rfl, hg3⟩ | ⟨hp, a2, c2, R2, rfl, hbk2, hn2, hl2, hc2, hd2, hg3⟩)
          · obtain ⟨n1, n2⟩ := HNo.out hp
            have hpn : (Bk.putE (dns R) (⟨xn, xa, xc, xl⟩ : Dm).dn == 0) = false := by simpa using hp
            have HN1 := Lib.hid n1
            have HN2 := Lib.hid n2
            have HGF : Hid (Gr w w3) := gw2.trans hg3
            clear n1 n2 HNo HSt HPx hp
            generalize Bk.putE (dns R) (⟨xn, xa, xc, xl⟩ : Dm).dn = z at *
            go_wp2
            go_ret2
            rw [HN1.out, HN2.out]
            exact ⟨none, 0, [], rfl, BkAt.nil, rfl, HGF.out⟩
          · obtain ⟨s1, s2⟩ := HSt.out
            rw [hp] at s1
            have s2 := s2 hp
            have HS1 := Lib.hid s1
            have HS2 := Lib.hid (hd2.trans s2.symm)
            have HB2 := Lib.hid hbk2
            have HN := Lib.hid hn2
            have HL := Lib.hid hl2
            have HGF : Hid (Gr w w3) := gw2.trans hg3
            have HC63 := Lib.hid hc2
            clear s1 s2 hd2 hbk2 hp hn2 hl2 hc2
            go_wp2
            go_roundw
            case rel => exact ⟨k + 1, a2, c2, R2, by go_num, rfl, by omega, HS1.out, HS2.out, HB2.out, HN.out, HL.out, HC63.out, HGF.out⟩
            case measure => simp [intOf]; omega
      · have hge : ¬ ((k : Int) < (M.length : Int)) := by omega
        have ht : (dns M).take k = dns M := List.take_of_length_le (by rw [dns_len]; omega)
        rw [ht] at hA hRD
        have HF1 := Lib.hid (HE1.out.trans hRD.symm)
        have HF2 := Lib.hid (HE2.out.trans hA)
        have HBk := Lib.hid hbk
        have HG : Hid (Gr w wr) := hg
        clear hbk hg hA hRD hmR ht
        go_wp2
        go_ret2
        rw [HF1.out, HF2.out]
        exact ⟨a, c, R, rfl, HBk.out, rfl, HG.out⟩
end Go.Proofs.Ytfobfpigbfepoaa
namespace Go.Proofs.Ytfobfpigbfepoaa
open Go.RowKit
theorem hold4 {a b : World} (g : Gr a b) {q0 q1 q2 q3 : Addr} {v0 v1 v2 v3 : Value} (h0 : a.cell? q0 = some v0) (h1 : a.cell? q1 = some v1) (h2 : a.cell? q2 = some v2) (h3 : a.cell? q3 = some v3) : Gr a b ∧ b.cell? q0 = some v0 ∧ b.cell? q1 = some v1 ∧ b.cell? q2 = some v2 ∧ b.cell? q3 = some v3 := ⟨g, g.keep h0, g.keep h1, g.keep h2, g.keep h3⟩
def eqB (A B : List Bk.Dn) : Bool := decide (A.length = B.length) && (List.range A.length).all (fun j => eqD (A.getD j ⟨⟨#[]⟩, []⟩).nm (A.getD j ⟨⟨#[]⟩, []⟩).L (B.getD j ⟨⟨#[]⟩, []⟩).nm (B.getD j ⟨⟨#[]⟩, []⟩).L)
theorem getD_at (A : List Bk.Dn) (j : Nat) (h : j < A.length) : A.getD j ⟨⟨#[]⟩, []⟩ = A[j] := by rw [List.getD_eq_getElem?_getD, List.getElem?_eq_getElem h]; rfl
theorem eqL_refl (L : List Df.Stp) : eqL L L = true := (eqL_iff L L).2 rfl
theorem eqB_refl (A : List Bk.Dn) : eqB A A = true := by
  unfold eqB
  rw [decide_eq_true rfl, Bool.true_and, List.all_eq_true]
  intro j _
  unfold eqD
  rw [decide_eq_true rfl, eqL_refl]; rfl
theorem eqB_eq {A B : List Bk.Dn} (h : eqB A B = true) : A = B := by
  unfold eqB at h
  rw [Bool.and_eq_true, decide_eq_true_eq, List.all_eq_true] at h
  obtain ⟨h1, h2⟩ := h
  refine List.ext_getElem h1 fun j hj hj' => ?_
  have h3 := h2 j (List.mem_range.2 hj)
  rw [getD_at A j hj, getD_at B j hj'] at h3
  unfold eqD at h3
  rw [Bool.and_eq_true, decide_eq_true_eq] at h3
  exact Bk.dn_ext h3.1 ((eqL_iff _ _).1 h3.2)
set_option maxHeartbeats 4000000 in
set_option maxRecDepth 100000 in
theorem refSame10_any (A B : List Dm) (ad : Option Addr) (cap : Nat) (ad2 : Option Addr) (cap2 : Nat) (w : World) (hA : BkAt w ad A) (hB : BkAt w ad2 B) (hn : A.length ≤ 9223372036854775807) :
    Calls Try.prog 15 #[.slice ad A.length cap, .slice ad2 B.length cap2] w fun e w' => e = .returned (.bool (eqB (dns A) (dns B))) ∧ Gr w w' := by
  have HA := Lib.hid hA
  have HB := Lib.hid hB
  clear hA hB
  by_cases hl : A.length = B.length
  · have hli : ((A.length : Int) != (B.length : Int)) = false := by simp [hl]
    have HL : Hid (A.length = B.length) := hl
    clear hl
    go_enter Try.func15, Try.ntmps15
    go_wp2
    go_loopw [5] (fun s5 wr => ∃ k : Nat, s5 = .int .i64 k ∧ k ≤ A.length ∧ (∀ j, j < k → eqD ((dns A).getD j ⟨⟨#[]⟩, []⟩).nm ((dns A).getD j ⟨⟨#[]⟩, []⟩).L ((dns B).getD j ⟨⟨#[]⟩, []⟩).nm ((dns B).getD j ⟨⟨#[]⟩, []⟩).L = true) ∧ Gr w wr) (fun s5 _ => A.length - (intOf s5).toNat)
    case atStart => exact ⟨0, rfl, Nat.zero_le _, fun j h => absurd h (Nat.not_lt_zero _), Gr.refl _⟩
    case round =>
      obtain ⟨k, rfl, hk, hok, hg⟩ := hrel
      have HG : Hid (Gr w wr) := hg
      have HK := Lib.hid hok
      clear hg hok
      by_cases hlt : k < A.length
      · have hlt2 : k < B.length := by have := HL.out; omega
        obtain ⟨b, off, rfl, hb, d0, d1⟩ := DmsAt.at HA.out.row k hlt
        obtain ⟨b', off', rfl, hb', e0, e1⟩ := DmsAt.at HB.out.row k hlt2
        have d0 := HG.out.keep d0
        have d1 := HG.out.keep d1
        have e0 := HG.out.keep e0
        have e1 := HG.out.keep e1
        have hbw : b < wr.heap.size := Nat.lt_of_lt_of_le hb HG.out.size
        have hbw' : b' < wr.heap.size := Nat.lt_of_lt_of_le hb' HG.out.size
        have hki : (k : Int) < (A.length : Int) := by omega
        have hki2 : (k : Int) < (B.length : Int) := by omega
        have hQ := fun w' (g : Gr w w') => refEqual_any A[k].nm A[k].L A[k].ad A[k].cap B[k].nm B[k].L B[k].ad B[k].cap w' ((HA.out.st _ (List.getElem_mem hlt)).gr g) ((HB.out.st _ (List.getElem_mem hlt2)).gr g) (HA.out.rng _ (List.getElem_mem hlt)).2.1
        have HD : Hid (eqD ((dns A).getD k ⟨⟨#[]⟩, []⟩).nm ((dns A).getD k ⟨⟨#[]⟩, []⟩).L ((dns B).getD k ⟨⟨#[]⟩, []⟩).nm ((dns B).getD k ⟨⟨#[]⟩, []⟩).L = eqD A[k].nm A[k].L B[k].nm B[k].L) := by
          show _ = _
          rw [getD_at _ k (by rw [dns_len]; exact hlt), getD_at _ k (by rw [dns_len]; exact hlt2), dns_get A k hlt, dns_get B k hlt2]; rfl
        generalize A[k] = x at *
        generalize B[k] = y at *
        generalize hq : eqD x.nm x.L y.nm y.L = q at *
        have HQ : Hid (∀ w', Gr w w' → Calls Try.prog 12 #[.agg #[.string x.nm, .slice x.ad x.L.length x.cap], .agg #[.string y.nm, .slice y.ad y.L.length y.cap]] w' fun e w2 => e = .returned (.bool q) ∧ Gr w' w2) := hQ
        clear hQ hq
        go_wp2_with fail
        refine wp_region_held_drew (S := (fun w' => Gr wr w' ∧ w'.cell? ⟨b, off + k * 2, none⟩ = some (.string x.nm) ∧ w'.cell? ⟨b, off + k * 2 + 1, none⟩ = some (.slice x.ad x.L.length x.cap) ∧ w'.cell? ⟨b', off' + k * 2, none⟩ = some (.string y.nm) ∧ w'.cell? ⟨b', off' + k * 2 + 1, none⟩ = some (.slice y.ad y.L.length y.cap))) (by kernel_rfl) (by exact hold4 (by (repeat' (first | with_reducible exact Gr.refl _ | with_reducible refine Gr.set ?_ _ ?_ _ | with_reducible refine Gr.alloc ?_ | with_reducible refine Gr.drew ?_ | with_reducible refine Gr.trans ?_ (by assumption))) <;> (first | (simp; done) | (simp; omega) | omega)) d0 d1 e0 e1) (fun hHeld => ?_)
        refine take_yes 0 17 (v := ?_) rfl rfl (by kernel_rfl) (by kernel_rfl) (by kernel_rfl) (fun _ _ _ h => h) (by rfl) ?_ hHeld ?_
        rotate_left
        · (intro w hSw; (try dsimp only at hSw); go_simp; try with_reducible rfl)
        simp only [Act.put, List.setIfInBounds_toArray, List.set_cons_zero, List.set_cons_succ]
        refine take_yes 1 18 (v := ?_) rfl rfl (by kernel_rfl) (by kernel_rfl) (by kernel_rfl) (fun _ _ _ h => h) (by rfl) ?_ hHeld ?_
        rotate_left
        · (intro w hSw; (try dsimp only at hSw); go_simp; try with_reducible rfl)
        simp only [Act.put, List.setIfInBounds_toArray, List.set_cons_zero, List.set_cons_succ]
        refine take_yes 2 19 (v := ?_) rfl rfl (by kernel_rfl) (by kernel_rfl) (by kernel_rfl) (fun _ _ _ h => h) (by rfl) ?_ hHeld ?_
        rotate_left
        · (intro w hSw; (try dsimp only at hSw); go_simp; try with_reducible rfl)
        simp only [Act.put, List.setIfInBounds_toArray, List.set_cons_zero, List.set_cons_succ]
        refine take_yes 3 20 (v := ?_) rfl rfl (by kernel_rfl) (by kernel_rfl) (by kernel_rfl) (fun _ _ _ h => h) (by rfl) ?_ hHeld ?_
        rotate_left
        · (intro w hSw; (try dsimp only at hSw); go_simp; try with_reducible rfl)
        simp only [Act.put, List.setIfInBounds_toArray, List.set_cons_zero, List.set_cons_succ]
        refine take_yes 4 21 (v := ?_) rfl rfl (by kernel_rfl) (by kernel_rfl) (by kernel_rfl) (fun _ _ _ h => h) (by rfl) ?_ hHeld ?_
        rotate_left
        · (intro w hSw; (try dsimp only at hSw); go_simp; try with_reducible rfl)
        simp only [Act.put, List.setIfInBounds_toArray, List.set_cons_zero, List.set_cons_succ]
        refine take_yes 5 22 (v := ?_) rfl rfl (by kernel_rfl) (by kernel_rfl) (by kernel_rfl) (fun _ _ _ h => h) (by rfl) ?_ hHeld ?_
        rotate_left
        · (intro w hSw; (try dsimp only at hSw); go_simp; try with_reducible rfl)
        simp only [Act.put, List.setIfInBounds_toArray, List.set_cons_zero, List.set_cons_succ]
        refine take_yes 6 23 (v := ?_) rfl rfl (by kernel_rfl) (by kernel_rfl) (by kernel_rfl) (fun _ _ _ h => h) (by rfl) ?_ hHeld ?_
        rotate_left
        · (intro w hSw; (try dsimp only at hSw); go_simp; try with_reducible rfl)
        simp only [Act.put, List.setIfInBounds_toArray, List.set_cons_zero, List.set_cons_succ]
        refine take_yes 7 24 (v := ?_) rfl rfl (by kernel_rfl) (by kernel_rfl) (by kernel_rfl) (fun _ _ _ h => h) (by rfl) ?_ hHeld ?_
        rotate_left
        · (intro w hSw; (try dsimp only at hSw); go_simp; try with_reducible rfl)
        simp only [Act.put, List.setIfInBounds_toArray, List.set_cons_zero, List.set_cons_succ]
        refine wpAnyH_ready (rs := [8]) (by kernel_rfl) (by simp) (AllReadyH.cons rfl (fun K hK => ?_) AllReadyH.nil)
        go_simp
        (go_at_call 12; refine (HQ.out _ (HG.out.trans (Gr.refl wr).drew)).mono ?_; rintro e wn ⟨rfl, hgn⟩)
        (try go_wp2_with fail)
        refine hK.out _ _ (by exact hold4 (by (repeat' (first | with_reducible exact Gr.refl _ | with_reducible refine Gr.set ?_ _ ?_ _ | with_reducible refine Gr.alloc ?_ | with_reducible refine Gr.drew ?_ | with_reducible refine Gr.trans ?_ (by assumption))) <;> (first | (simp; done) | (simp; omega) | omega)) d0 d1 e0 e1) (fun hHeldN => ?_)
        clear hHeld hK K
        have hHeld := hHeldN
        clear hHeldN
        refine take_yes 9 26 (v := ?_) rfl rfl (by kernel_rfl) (by kernel_rfl) (by kernel_rfl) (fun _ _ _ h => h) (by rfl) ?_ hHeld ?_
        rotate_left
        · (intro w hSw; (try dsimp only at hSw); go_simp; try with_reducible rfl)
        simp only [Act.put, List.setIfInBounds_toArray, List.set_cons_zero, List.set_cons_succ]
        refine wpAnyH_done (by kernel_rfl) ?_ _
        cases q with
        | false =>
          have HF : Hid (eqB (dns A) (dns B) = false) := by
            show _ = _
            cases e : eqB (dns A) (dns B) with
            | false => rfl
            | true =>
              have h := HD.out
              rw [eqB_eq e] at h
              unfold eqD at h
              rw [decide_eq_true rfl, eqL_refl] at h; cases h
          go_wp2
          go_ret
          exact ⟨by (rw [HF.out]) <;> rfl, HG.out.trans (by (repeat' (first | with_reducible exact Gr.refl _ | with_reducible refine Gr.set ?_ _ ?_ _ | with_reducible refine Gr.alloc ?_ | with_reducible refine Gr.drew ?_ | with_reducible refine Gr.trans ?_ (by assumption))) <;> (first | (simp; done) | (simp; omega) | omega))⟩
        | true =>
          have HK2 : Hid (∀ j, j < k + 1 → eqD ((dns A).getD j ⟨⟨#[]⟩, []⟩).nm ((dns A).getD j ⟨⟨#[]⟩, []⟩).L ((dns B).getD j ⟨⟨#[]⟩, []⟩).nm ((dns B).getD j ⟨⟨#[]⟩, []⟩).L = true) := by
            intro j h
            by_cases e : j = k
            · subst e; exact HD.out
            · exact HK.out j (by omega)
          clear HK HD
          go_wp2
          go_roundw
          case rel => exact ⟨k + 1, by go_num, by omega, HK2.out, HG.out.trans (by (repeat' (first | with_reducible exact Gr.refl _ | with_reducible refine Gr.set ?_ _ ?_ _ | with_reducible refine Gr.alloc ?_ | with_reducible refine Gr.drew ?_ | with_reducible refine Gr.trans ?_ (by assumption))) <;> (first | (simp; done) | (simp; omega) | omega))⟩
          case measure => simp [intOf]; omega
      · have hge : ¬ ((k : Int) < (A.length : Int)) := by omega
        have HF : Hid (eqB (dns A) (dns B) = true) := by
          show _ = _
          unfold eqB
          rw [decide_eq_true (by rw [dns_len, dns_len]; exact HL.out), Bool.true_and, List.all_eq_true]
          intro j hj
          exact HK.out j (by have := List.mem_range.1 hj; rw [dns_len] at this; omega)
        go_wp2
        go_ret
        exact ⟨by (rw [HF.out]) <;> rfl, HG.out⟩
  · have hli : ((A.length : Int) != (B.length : Int)) = true := by rw [bne_iff_ne]; omega
    have HF : Hid (eqB (dns A) (dns B) = false) := by
      show _ = _
      unfold eqB
      rw [decide_eq_false (by rw [dns_len, dns_len]; exact hl)]; rfl
    go_enter Try.func15, Try.ntmps15
    go_wp2
    go_ret
    exact ⟨by (rw [HF.out]) <;> rfl, (by (repeat' (first | with_reducible exact Gr.refl _ | with_reducible refine Gr.set ?_ _ ?_ _ | with_reducible refine Gr.alloc ?_ | with_reducible refine Gr.drew ?_ | with_reducible refine Gr.trans ?_ (by assumption))) <;> (first | (simp; done) | (simp; omega) | omega))⟩
def fewB (D : List Dm) : Bool := decide (D.length ≤ 100) && D.all (fun d => decide (d.L.length ≤ 100))
theorem few_iff (D : List Dm) : fewB D = true ↔ D.length ≤ 100 ∧ ∀ d ∈ D, d.L.length ≤ 100 := by
  unfold fewB; simp only [Bool.and_eq_true, decide_eq_true_eq, List.all_eq_true]
set_option maxHeartbeats 4000000 in
set_option maxRecDepth 100000 in
theorem few10_any (D : List Dm) (ad : Option Addr) (cap : Nat) (w : World) (hD : DmsAt w ad D) (hn : D.length ≤ 9223372036854775807) (hm : ∀ d ∈ D, d.L.length ≤ 9223372036854775807) :
    Calls Try.prog 6 #[.slice ad D.length cap] w fun e w' => e = .returned (.bool (fewB D)) ∧ Gr w w' := by
  have HD := Lib.hid hD
  have HM := Lib.hid hm
  clear hD hm
  by_cases hl : (100 : Int) < (D.length : Int)
  · have HF : Hid (fewB D = false) := by show _ = _; unfold fewB; rw [decide_eq_false (by omega)]; rfl
    have hl2 : 100 < D.length := by omega
    go_enter Try.func6, Try.ntmps6
    go_wp2
    go_ret
    exact ⟨by (rw [HF.out]) <;> rfl, (by (repeat' (first | with_reducible exact Gr.refl _ | with_reducible refine Gr.set ?_ _ ?_ _ | with_reducible refine Gr.alloc ?_ | with_reducible refine Gr.drew ?_ | with_reducible refine Gr.trans ?_ (by assumption))) <;> (first | (simp; done) | (simp; omega) | omega))⟩
  · have hl2 : ¬ 100 < D.length := by omega
    go_enter Try.func6, Try.ntmps6
    go_wp2
    go_loopw [3] (fun s3 wr => ∃ k : Nat, s3 = .int .i64 k ∧ k ≤ D.length ∧ (∀ j (h : j < D.length), j < k → D[j].L.length ≤ 100) ∧ Gr w wr) (fun s3 _ => D.length - (intOf s3).toNat)
    case atStart => exact ⟨0, rfl, Nat.zero_le _, fun j _ h => absurd h (Nat.not_lt_zero _), Gr.refl _⟩
    case round =>
      obtain ⟨k, rfl, hk, hok, hg⟩ := hrel
      have HG : Hid (Gr w wr) := hg
      have HK := Lib.hid hok
      clear hg hok
      by_cases hlt : k < D.length
      · obtain ⟨b, off, rfl, hb, d0, d1⟩ := DmsAt.at HD.out k hlt
        have d1 := HG.out.keep d1
        have hbw : b < wr.heap.size := Nat.lt_of_lt_of_le hb HG.out.size
        have hki : (k : Int) < (D.length : Int) := by omega
        have hbig := HM.out _ (List.getElem_mem hlt)
        clear d0
        by_cases hq : (100 : Int) < (D[k].L.length : Int)
        · have HF : Hid (fewB D = false) := by
            show _ = _
            cases e : fewB D with
            | false => rfl
            | true => have := ((few_iff D).1 e).2 _ (List.getElem_mem hlt); omega
          have hq2 : 100 < D[k].L.length := by omega
          generalize D[k] = x at *
          go_wp2
          go_ret
          exact ⟨by (rw [HF.out]) <;> rfl, HG.out⟩
        · have hq2 : ¬ 100 < D[k].L.length := by omega
          have HQ : Hid (∀ j (h : j < D.length), j < k + 1 → D[j].L.length ≤ 100) := by
            intro j h hj
            by_cases e : j = k
            · subst e; omega
            · exact HK.out j h (by omega)
          generalize D[k] = x at *
          go_wp2
          go_roundw
          case rel => exact ⟨k + 1, by go_num, by omega, HQ.out, HG.out⟩
          case measure => simp [intOf]; omega
      · have hge : ¬ ((k : Int) < (D.length : Int)) := by omega
        have HF : Hid (fewB D = true) := by
          refine (few_iff D).2 ⟨by omega, fun d hd => ?_⟩
          obtain ⟨j, hj, rfl⟩ := List.getElem_of_mem hd
          exact HK.out j hj (by omega)
        go_wp2
        go_ret
        exact ⟨by (rw [HF.out]) <;> rfl, HG.out⟩
end Go.Proofs.Ytfobfpigbfepoaa
namespace Go.Proofs.Ytfobfpigbfepoaa
open Go.ChangeShapes Go.WideShapes Go.ChangeAt Go.RowKit
open Go.ChangeMaps (open_string shut_string)
set_option maxHeartbeats 8000000 in
set_option maxRecDepth 100000 in
theorem bookAdds_walk (D M : List Dm) (ad : Option Addr) (cap : Nat) (adM : Option Addr) (capM : Nat) (w : World) (hB : BkAt w ad D) (hn : D.length ≤ 9223372036854775807) (hcap : ad = none → cap = 0) (hlc : D.length ≤ cap) (hc63 : cap ≤ 9223372036854775807) (hM : BkAt w adM M) (hm : M.length ≤ 9223372036854775807) :
    Calls Try.prog 4 #[.slice ad D.length cap, .slice adM M.length capM] w fun e w' => e = .returned (.bool true) ∧ Gr w w' := by
  have HA : Hid (∀ w', Calls Try.prog 7 #[] w' fun e w2 => e = .returned (.bool true) ∧ Gr w' w2) := fun w' => awake10_any w'
  have HF : Hid (∀ w', Gr w w' → Calls Try.prog 6 #[.slice ad D.length cap] w' fun e w2 => e = .returned (.bool (fewB D)) ∧ Gr w' w2) := fun w' g => few10_any D ad cap w' (hB.row.gr g) hn (fun d hd => (hB.rng d hd).2.1)
  have HH : Hid (∀ w', Gr w w' → Calls Try.prog 6 #[.slice adM M.length capM] w' fun e w2 => e = .returned (.bool (fewB M)) ∧ Gr w' w2) := fun w' g => few10_any M adM capM w' (hM.row.gr g) hm (fun d hd => (hM.rng d hd).2.1)
  have HI : Hid (∀ w', Gr w w' → Calls Try.prog 13 #[.slice ad D.length cap, .slice adM M.length capM] w' fun e w2 => AdR w' (AdD (dns D) (dns M)) (AdE (dns D) (dns M)) e w2) := fun w' g => add_any D M ad cap adM capM w' (hB.gr g) (hM.gr g) hn hm
  have HJ : Hid (∀ w', Gr w w' → Calls Try.prog 14 #[.slice ad D.length cap, .slice adM M.length capM] w' fun e w2 => AfR w' (AdD (dns D) (dns M)) (AdE (dns D) (dns M)) e w2) := fun w' g => refAdd_any D M ad cap adM capM w' (hB.gr g) (hM.gr g) hn hm hcap hlc hc63
  have HSm : Hid (∀ (R1 R2 : List Dm) (a1 : Option Addr) (c1 : Nat) (a2 : Option Addr) (c2 : Nat) w', BkAt w' a1 R1 → BkAt w' a2 R2 → dns R1 = dns R2 → R1.length ≤ 9223372036854775807 → Calls Try.prog 15 #[.slice a1 R1.length c1, .slice a2 R2.length c2] w' fun e w2 => e = .returned (.bool true) ∧ Gr w' w2) := by
    intro R1 R2 a1 c1 a2 c2 w' h1 h2 he hl
    have := refSame10_any R1 R2 a1 c1 a2 c2 w' h1 h2 hl
    rw [he, eqB_refl] at this
    exact this
  clear hB hM hn hm hcap hlc hc63
  generalize AdD (dns D) (dns M) = B at *
  generalize AdE (dns D) (dns M) = z at *
  cases hf : fewB D with
  | false =>
    rw [hf] at HF
    go_enter Try.func4, Try.ntmps4
    go_wp2_with fail
    refine (HF.out w (Gr.refl w)).mono ?_
    rintro e w1 ⟨rfl, hg1⟩
    go_wp2_with fail
    refine (HA.out _).mono ?_
    rintro e w2 ⟨rfl, hg2⟩
    go_wp2
    go_ret
    exact ⟨rfl, (by repeat (first | exact Gr.refl _ | refine Gr.alloc ?_ | refine Gr.drew ?_ | refine Gr.trans ?_ (by assumption)))⟩
  | true =>
    rw [hf] at HF
    cases hh : fewB M with
    | false =>
      rw [hh] at HH
      go_enter Try.func4, Try.ntmps4
      go_wp2_with fail
      refine (HF.out w (Gr.refl w)).mono ?_
      rintro e w1 ⟨rfl, hg1⟩
      go_wp2_with fail
      refine (HH.out _ (by repeat (first | exact Gr.refl _ | refine Gr.alloc ?_ | refine Gr.drew ?_ | refine Gr.trans ?_ (by assumption)))).mono ?_
      rintro e w2 ⟨rfl, hg2⟩
      go_wp2_with fail
      refine (HA.out _).mono ?_
      rintro e w3 ⟨rfl, hg3⟩
      go_wp2
      go_ret
      exact ⟨rfl, (by repeat (first | exact Gr.refl _ | refine Gr.alloc ?_ | refine Gr.drew ?_ | refine Gr.trans ?_ (by assumption)))⟩
    | true =>
      rw [hh] at HH
      go_enter Try.func4, Try.ntmps4
      go_wp2_with fail
      refine (HF.out w (Gr.refl w)).mono ?_
      rintro e w1 ⟨rfl, hg1⟩
      go_wp2_with fail
      refine (HH.out _ (by repeat (first | exact Gr.refl _ | refine Gr.alloc ?_ | refine Gr.drew ?_ | refine Gr.trans ?_ (by assumption)))).mono ?_
      rintro e w2 ⟨rfl, hg2⟩
      have HG2 : Hid (Gr w w2) := (by repeat (first | exact Gr.refl _ | refine Gr.alloc ?_ | refine Gr.drew ?_ | refine Gr.trans ?_ (by assumption)))
      clear hg1 hg2
      go_wp2_with fail
      refine (HI.out _ HG2.out).mono ?_
      rintro e w3 ⟨a1, c1, R1, rfl, hb1, hd1, hg3⟩
      obtain ⟨a1', c1', e1, hl1, hc1, hk1, _⟩ := hb1.at
      cases e1
      have HK1 := Lib.hid hk1
      have HG3 : Hid (Gr w w3) := HG2.out.trans hg3
      have hR1 : R1.length ≤ 9223372036854775807 := by omega
      clear hb1 hk1 hg3
      go_wp2_with fail
      refine (HJ.out _ HG3.out).mono ?_
      rintro e w4 ⟨a2, c2, R2, rfl, hk2, hd2, hg4⟩
      have HK4 := Lib.hid (HK1.out.gr hg4)
      have HL4 := Lib.hid hk2
      have HG4 : Hid (Gr w w4) := HG3.out.trans hg4
      have HEq : Hid (dns R1 = dns R2) := hd1.trans hd2.symm
      clear hk2 hg4 hd1 hd2
      go_wp2_with fail
      refine (HSm.out R1 R2 a1 c1 a2 c2 _ HK4.out HL4.out HEq.out hR1).mono ?_
      rintro e w5 ⟨rfl, hg5⟩
      have HG5 : Hid (Gr w w5) := HG4.out.trans hg5
      clear hg5
      go_wp2_with fail
      refine (HA.out _).mono ?_
      rintro e w6 ⟨rfl, hg6⟩
      have HG6 : Hid (Gr w w6) := HG5.out.trans hg6
      clear hg6
      go_wp2
      go_ret
      exact ⟨rfl, HG6.out⟩
set_option maxRecDepth 100000 in
theorem bookAdds_lifted (os : Os) (started : os.Started) (H : Type) (enc : TypeId × Value → H) :
    ReturnsInHanded {} Try.checked os 4 .any (Rows.bookAddsSpec.pre6 enc Try.prog Try.f4 Rows.bookAddsRow.domain false) (Rows.bookAddsSpec.post enc Try.prog Try.f4 false true false false) := by
  refine returnsInHanded_of_change (C := Try.checked) own2 started (by kernel_rfl) Try.func4
    (ChangeSpec.witness6 (enc := enc) (C := Try.checked) false ⟨#[], #[.slice none 0 0, .slice none 0 0], []⟩ 8 (by kernel_rfl) (by kernel_rfl) (by kernel_rfl) (by kernel_rfl)) ?_
  intro W base args ds gs before hval0 hW hcnd _
  have hval : ∀ (j : Nat) t v, Try.f4.params[j]? = some t → args[j]? = some v → Value.okWide Try.prog W .any base t v := hval0
  have hW' := hW
  obtain ⟨p, q, hA0, hV, rfl, hfz, hnd⟩ := hW
  have hA : DataW.TrodAll enc Try.prog W 0 (fun _ => true) true Try.f4.params.toList args.toList ds p := hA0
  rw [Try.params4] at hA hval
  obtain ⟨v0, v1, d0, d1, p0, p1, rfl, rfl, rfl, q0, q1⟩ := trodAll_two hA
  obtain ⟨rfl, rfl⟩ := trodVars_none hV
  have k0 := q0
  have lt0 : ∀ x ∈ p0, x.block < W.heap.size := by obtain ⟨m, hm⟩ := k0; exact DataW.trod_lt m _ _ _ hm
  have k1 := q1
  have lt1 : ∀ x ∈ p1, x.block < W.heap.size := by obtain ⟨m, hm⟩ := k1; exact DataW.trod_lt m _ _ _ hm
  obtain ⟨ad0, cap0, D0, rfl, hB0, hn0, hc0, hl0, hm0⟩ := open_defs (hval 0 22 v0 rfl rfl) q0
  obtain ⟨ad1, cap1, D1, rfl, hB1, hn1, hc1, hl1, hm1⟩ := open_defs (hval 1 22 v1 rfl rfl) q1
  clear hA0 hval0
  refine (bookAdds_walk D0 D1 ad0 cap0 ad1 cap1 W hB0 hn0 hc0 hl0 hm0 hB1 hn1).mono fun e W' ⟨he, hg⟩ => ?_
  subst he
  exact ⟨_, rfl, _, _, _, [], _, [], hW', trodAll_mk1 (shut_bool Try.underlying4 _), trodAll_mk2 (Below.trod laidOut2 (by kernel_rfl) (of_decide_eq_true (by kernel_rfl)) k0 hg.below lt0) (Below.trod laidOut2 (by kernel_rfl) (of_decide_eq_true (by kernel_rfl)) k1 hg.below lt1), rfl, hg.below.frame _, fun h => by cases h⟩
theorem bookAdds_holds : Rows.BookAddsSaid :=
  OpenClaim.holds_of_wide 4 Try.f4 rfl rfl rfl rfl rfl rfl rfl ⟨rfl, rfl, rfl, rfl, rfl⟩ rfl rfl rfl rfl rfl (by kernel_rfl) Try.func4 (by kernel_rfl)
    (of_decide_eq_true (by kernel_rfl)) (by unfold Func.isWrapper; first | (rw [if_pos (by decide +kernel)]; kernel_rfl) | (rw [if_neg (by decide +kernel)]; exact ⟨rfl, rfl⟩))
    (fun os started H enc _ => bookAdds_lifted os started H enc)
end Go.Proofs.Ytfobfpigbfepoaa
