/- What the proof is made of, part 28. -/
import Derived.Test.YtfobfpigbfepoaaGreatDoorTLBTexts27
import Derived.Test.YtfobfpigbfepoaaGreatDoorRows
import Derived.ProofKit
import Derived.OpenShut
import Derived.Deep.SlicePairs
import Derived.Deep.Strs
import Derived.ChangeSame
import Derived.LaidMore
import Derived.ChangeSlices
import Derived.ShutString
import Derived.SizedLaws
namespace Go.Proofs.YtfobfpigbfepoaaGreatDoor
open Go.RowKit
open Lex (Tok ckE scT scF scA)
open Df (Stp tk pE pA pT pN pL)
def RfQ (w : World) (B : List Bk.Dn) (z p : Int) (e : Ending) (w' : World) : Prop :=
  ∃ a c R, e = .returned (.tuple #[.slice a R.length c, .agg #[.int .i64 z, .int .i64 p]]) ∧ BkAt w' a R ∧ dns R = B ∧ Gr w w'
structure Above (B : Nat) (a : Option Addr) (R : List Dm) : Prop where
  r : ∀ x, a = some x → B < x.block
  s : ∀ d ∈ R, ∀ x, d.ad = some x → B < x.block
theorem BkAt.set {w : World} {B i : Nat} {a : Option Addr} {R : List Dm} (h : BkAt w a R) (k : Above B a R) (v : Value) : BkAt (w.setCell ⟨B, i, none⟩ v) a R :=
  ⟨h.row.setFar _ _ (fun x e => by have := k.r x e; simp; omega), fun d hd => (h.st d hd).setFar _ _ (fun x e => by have := k.s d hd x e; simp; omega), h.rng⟩
theorem rf_none {w w' : World} {RB : List Bk.Dn} {RE RA z p : Int} (e1 : RE = z) (e2 : RA = p) (e3 : RB = []) (hg : Gr w w') : RfQ w RB RE RA (.returned (.tuple #[.slice none 0 0, .agg #[.int .i64 z, .int .i64 p]])) w' :=
  ⟨none, 0, [], by rw [e1, e2]; rfl, BkAt.nil, e3.symm, hg⟩
set_option maxRecDepth 100000 in
set_option maxHeartbeats 8000000 in
theorem refRead_any (s : ByteArray) (w : World) (hs : s.size ≤ 9223372036854775807) :
    Calls Tryz.prog 9 #[.string s] w fun e w' => RfQ w (Bk.rD s.data.toList) (Bk.rE s.data.toList) (Bk.rA s.data.toList) e w' := by
  have hl : s.data.toList.length = s.size := by simp
  have HS : Hid (∀ w' : World, Calls Tryz.prog 23 #[.string s] w' fun e w2 => ∃ ad cap, e = .returned (.tuple #[.slice ad (scT s.data.toList).length cap, .agg #[.int .i64 (scF s.data.toList), .int .i64 (scA s.data.toList)]]) ∧ (scT s.data.toList).length ≤ cap ∧ ToksAt w2 ad (scT s.data.toList) ∧ (∀ a, ad = some a → w'.heap.size ≤ a.block) ∧ Gr w' w2) := fun w' => refScan_any s w'
  have hTl := Lex.scT_len s.data.toList
  have hTz := scT_size s.data.toList (by omega)
  have HR0 := Lib.hid (TwoAt.new w (.int .i64 0) (.int .i64 0) 31 _ rfl)
  by_cases hF : scF s.data.toList = 0
  · have h80 := ck_scan hF
    have HRE : Hid (Bk.rE s.data.toList = (Bk.RD (scT s.data.toList) 0 []).1) := by show _ = _; unfold Bk.rE; rw [if_neg (by rw [hF]; decide)]
    have HRA : Hid (Bk.rA s.data.toList = (Bk.RD (scT s.data.toList) 0 []).2.1) := by show _ = _; unfold Bk.rA; rw [if_neg (by rw [hF]; decide)]
    have HRD : Hid (Bk.rD s.data.toList = (Bk.RD (scT s.data.toList) 0 []).2.2) := by show _ = _; unfold Bk.rD; rw [if_neg (by rw [hF]; decide)]
    rw [hF] at HS
    generalize scT s.data.toList = T at *
    generalize scA s.data.toList = SA at *
    generalize Bk.rE s.data.toList = RE at *
    generalize Bk.rA s.data.toList = RA at *
    generalize Bk.rD s.data.toList = RB at *
    have hT0 : 0 < T.length := (Df.gd_of h80).pos
    have H80 : Hid (ckE T ≠ 80) := h80
    have HTz := Lib.hid hTz
    clear hF h80 hTz
    go_enter Tryz.func9, Tryz.ntmps9
    go_wp2_with fail
    refine (HS.out _).mono ?_
    rintro e w1 ⟨adT, capT, rfl, hcT, hTok, hTn, hg1⟩
    have HG1 : Hid (Gr w (w1.alloc (.cells #[.int .i64 0, .int .i64 SA] 31))) := ((Gr.refl w).alloc.trans hg1).alloc
    have HR1 := Lib.hid ((HR0.out.gr hg1).gr (Gr.refl _).alloc (w' := w1.alloc (.cells #[.int .i64 0, .int .i64 SA] 31)))
    have HTk := Lib.hid (hTok.gr (Gr.refl _).alloc (w' := w1.alloc (.cells #[.int .i64 0, .int .i64 SA] 31)))
    have HTn : Hid (∀ a, adT = some a → w.heap.size + 1 ≤ a.block) := fun a e => by have := hTn a e; simpa using this
    obtain ⟨W1, hW1⟩ : ∃ W1, W1 = w1.alloc (.cells #[.int .i64 0, .int .i64 SA] 31) := ⟨_, rfl⟩
    clear hTok hTn hg1 HR0
    go_wp2
    rw [← hW1] at HG1 HR1 HTk ⊢
    clear hW1
    go_loopw [6, 7] (fun s6 s7 wr => ∃ (j : Nat) (a : Option Addr) (c : Nat) (R : List Dm), s7 = .int .i64 j ∧ s6 = .slice a R.length c ∧ j < T.length ∧ Bk.mayB (dns R) = true ∧ Bk.RD T j (dns R) = Bk.RD T 0 [] ∧ BkAt wr a R ∧ (a = none → c = 0) ∧ R.length ≤ c ∧ c ≤ 9223372036854775807 ∧ Above w.heap.size a R ∧ Gr W1 wr) (fun _ s7 _ => T.length - (intOf s7).toNat)
    case atStart => exact ⟨0, none, 0, [], rfl, rfl, hT0, Bk.may_nil, rfl, BkAt.nil, fun _ => rfl, by simp, by omega, ⟨(fun x e => by cases e), by simp⟩, Gr.refl _⟩
    case round =>
      obtain ⟨j, a, c, R, rfl, rfl, hj, hmR, hRD, hbk, hrn, hrl, hr63, hab, hg⟩ := hrel
      have HG : Hid (Gr W1 wr) := hg
      obtain ⟨b, off, rfl, hbl, t0, t1, t2⟩ := (HTk.out.gr hg) j hj
      have hji : (j : Int) < (T.length : Int) := by omega
      have htk : tk T j = T[j] := Df.tk_get T j hj
      clear hg
      by_cases hk : T[j].k = 0
      · have hkb : (T[j].k == 0) = true := by simpa using hk
        rw [Bk.RD_end hj _ (by rw [htk]; exact hk)] at hRD
        have e1 := HRE.out
        have e2 := HRA.out
        have e3 := HRD.out
        rw [← hRD] at e1 e2 e3
        have HE1 := Lib.hid e1
        have HE2 := Lib.hid e2
        have HE3 := Lib.hid e3
        have HBk := Lib.hid ((hbk.set hab (i := 0) (.int .i64 0)).set hab (i := 1) (.int .i64 0))
        obtain ⟨c0, c1, f0, f1, lt⟩ := HR1.out.gr HG.out
        clear e1 e2 e3 hRD hbk hmR htk
        go_wp2
        refine bodyPost_ret (v := .tuple #[.slice a R.length c, .agg #[.int .i64 0, .int .i64 0]]) (by simp [results, Tryz.results9, go_sem, *]) rfl ?_
        exact ⟨a, c, R, by rw [HE1.out, HE2.out], HBk.out, HE3.out.symm, ((HG1.out.trans HG.out).set _ (by simp) _).set _ (by simp) _⟩
      · have hkb : (T[j].k == 0) = false := by simpa using hk
        have HP : Hid (∀ w' : World, Gr wr w' → Calls Tryz.prog 24 #[.slice (some ⟨b, off, none⟩) T.length capT, .int .i64 (j : Int)] w' fun e w2 => PaR w' (pN T j) (pL T j) (pT T j) (pE T j) (pA T j) e w2) := fun w' g => refParse_any T _ capT (j : Int) w' ((HTk.out.gr HG.out).gr g) (by omega) HTz.out
        have hkn : (tk T j).k ≠ 0 := by rw [htk]; exact hk
        by_cases he : pE T j = 0
        · obtain ⟨q1, q2, q3⟩ := pT_in H80.out he
          have hok := pE_ok H80.out he
          have hdn : Bk.dnA T j = ⟨pN T j, pL T j⟩ := rfl
          have HIn : Hid (∀ a c, inD ⟨pN T j, a, c, pL T j⟩) := fun a c => by
            obtain ⟨z1, z2, z3⟩ := ok_small hok
            refine ⟨by simp only at z1 ⊢; omega, by simp only at z2 ⊢; omega, ?_⟩
            exact fun s hs => stp_rng (((Df.def_iff _ _).1 hok).2.2.2 s hs)
          have HPt : Hid (∀ (xa : Option Addr) (xc : Nat) w', Gr wr w' → StpsAt w' xa (pL T j) → Calls Tryz.prog 25 #[.slice a R.length c, .agg #[.string (pN T j), .slice xa (pL T j).length xc]] w' fun e w2 => PuF w' R ⟨pN T j, xa, xc, pL T j⟩ e w2) := fun xa xc w' g hst => refPut_any R ⟨pN T j, xa, xc, pL T j⟩ a c w' (hbk.gr g) hrn hrl hr63 hmR hst (HIn.out xa xc) hok
          have HGo : Hid (Bk.putE (dns R) ⟨pN T j, pL T j⟩ = 0 → Bk.RD T (pT T j).toNat (Bk.ins (dns R) ⟨pN T j, pL T j⟩) = Bk.RD T 0 []) := by
            intro hp
            rw [← hRD, Bk.RD_go H80.out (dns R) hkn he (by rw [hdn]; exact hp), hdn]
          have HNo : Hid (Bk.putE (dns R) ⟨pN T j, pL T j⟩ ≠ 0 → Bk.RD T 0 [] = (Bk.putE (dns R) ⟨pN T j, pL T j⟩, T[j].p, [])) := by
            intro hp
            rw [← hRD, Bk.RD_no hj (dns R) hkn he (by rw [hdn]; exact hp), hdn, htk]
          have HMy : Hid (Bk.putE (dns R) ⟨pN T j, pL T j⟩ = 0 → Bk.mayB (Bk.ins (dns R) ⟨pN T j, pL T j⟩) = true) := fun hp => Bk.ins_may hmR hp
          have HAb := Lib.hid hab
          clear hbk hRD hmR htk hkn hok hdn hab hrn hrl hr63
          generalize hnx : (pT T j).toNat = nx at *
          rw [q3] at HP
          generalize pE T j = PE at *
          subst he
          generalize pA T j = PA at *
          generalize pN T j = PN at *
          generalize pL T j = PL at *
          go_wp2_with fail
          refine (HP.out _ (Gr.refl _)).mono ?_
          rintro e w2 ⟨xa, xc, rfl, hst, _, hnew, hg2⟩
          have gb : Gr w2 ((w2.alloc (.cells #[.string PN, .slice xa PL.length xc] 38)).alloc (.cells #[.int .i64 0, .int .i64 PA] 31)) := (Gr.refl w2).alloc.alloc
          have HG2 : Hid (Gr wr ((w2.alloc (.cells #[.string PN, .slice xa PL.length xc] 38)).alloc (.cells #[.int .i64 0, .int .i64 PA] 31))) := hg2.trans gb
          have HSt := Lib.hid (hst.gr gb)
          obtain ⟨d0, d1, _, _, dl⟩ := (TwoAt.new w2 (.string PN) (.slice xa PL.length xc) 38 _ rfl).gr (Gr.refl _).alloc (w' := (w2.alloc (.cells #[.string PN, .slice xa PL.length xc] 38)).alloc (.cells #[.int .i64 0, .int .i64 PA] 31))
          have hB0 := (HR1.out.gr HG.out).lt
          have HNew : Hid (∀ x, xa = some x → w.heap.size < x.block) := fun x e => Nat.lt_of_lt_of_le hB0 (hnew x e)
          have HCall := Lib.hid (HPt.out xa xc _ HG2.out HSt.out)
          clear hst hnew hg2 gb HP
          go_wp2_with fail
          refine HCall.out.mono ?_
          rintro e w3 (⟨hp, rfl, hg3⟩ | ⟨hp, a2, c2, R2, rfl, hbk2, hn2, hl2, hc2, hd2, hme, hlo, hg3⟩)
          · have hRD := HNo.out hp
            have e1 := HRE.out
            have e2 := HRA.out
            have e3 := HRD.out
            rw [hRD] at e1 e2 e3
            have hpn : (Bk.putE (dns R) (⟨PN, xa, xc, PL⟩ : Dm).dn == 0) = false := by simpa using hp
            have HG3 : Hid (Gr W1 w3) := (HG.out.trans HG2.out).trans hg3
            have hz : Bk.putE (dns R) (⟨PN, xa, xc, PL⟩ : Dm).dn = Bk.putE (dns R) ⟨PN, PL⟩ := rfl
            rw [hz] at hpn ⊢
            have HE1 := Lib.hid e1
            have HE2 := Lib.hid e2
            have HE3 := Lib.hid e3
            obtain ⟨r0, r1, f0, f1, lt⟩ := HR1.out.gr HG3.out
            have u2 := (HG2.out.trans hg3).keep t2
            have hbl3 := Nat.lt_of_lt_of_le hbl (HG2.out.trans hg3).size
            clear e1 e2 e3 hRD hp hz hg3 HNo HGo HMy HCall HPt HSt
            generalize Bk.putE (dns R) ⟨PN, PL⟩ = Z at *
            generalize T[j].p = tp at *
            have HGf : Hid (Gr w w3) := HG1.out.trans HG3.out
            have hbB : ¬ b = w.heap.size := by have := HTn.out _ rfl; simp at this; omega
            have hbB2 : ¬ w.heap.size = b := fun e => hbB e.symm
            go_wp2_with fail
            go_region
            all_goals go_wp2
            all_goals refine bodyPost_ret (v := .tuple #[.slice none 0 0, .agg #[.int .i64 Z, .int .i64 tp]]) (by simp [results, Tryz.results9, go_sem, *]) rfl ?_
            all_goals refine rf_none HE1.out HE2.out HE3.out ?_
            all_goals (first | exact ((HGf.out.set _ (by simp) _).set _ (by simp) _).drew | exact (HGf.out.drew.set _ (by simp) _).set _ (by simp) _)
          · have HGo2 := Lib.hid (HGo.out hp)
            have HMy2 := Lib.hid (HMy.out hp)
            have HD2 := Lib.hid hd2
            have HB2 := Lib.hid hbk2
            have HN2 := Lib.hid hn2
            have HL2 := Lib.hid hl2
            have HC2 := Lib.hid hc2
            have HG3 : Hid (Gr W1 w3) := (HG.out.trans HG2.out).trans hg3
            have hB2 := Nat.lt_of_lt_of_le hB0 HG2.out.size
            have HA2 : Hid (Above w.heap.size a2 R2) := ⟨fun x e => Nat.lt_of_lt_of_le hB2 (hlo x e), fun d hd x e => by
              rcases hme d hd with hd | rfl
              · exact HAb.out.s d hd x e
              · exact HNew.out x e⟩
            clear hp hd2 hbk2 hn2 hl2 hc2 hme hlo hg3 HGo HMy HNo HCall HPt HSt
            go_wp2
            go_roundw
            case rel => exact ⟨nx, a2, c2, R2, rfl, rfl, q2, by rw [HD2.out]; exact HMy2.out, by rw [HD2.out]; exact HGo2.out, HB2.out, HN2.out, HL2.out, HC2.out, HA2.out, HG3.out⟩
            case measure => simp [intOf]; omega
        · have hen : (pE T j == 0) = false := by simpa using he
          have hRD2 := hRD
          rw [Bk.RD_bad hj (dns R) hkn he] at hRD2
          have e1 := HRE.out
          have e2 := HRA.out
          have e3 := HRD.out
          rw [← hRD2] at e1 e2 e3
          have HE1 := Lib.hid e1
          have HE2 := Lib.hid e2
          have HE3 := Lib.hid e3
          clear e1 e2 e3 hRD hRD2 hmR htk hbk hkn he
          generalize pE T j = PE at *
          generalize pA T j = PA at *
          generalize pN T j = PN at *
          generalize pL T j = PL at *
          generalize pT T j = PT at *
          go_wp2_with fail
          refine (HP.out _ (Gr.refl _)).mono ?_
          rintro e w2 ⟨xa, xc, rfl, hst, _, hnew, hg2⟩
          have gf : Gr wr ((w2.alloc (.cells #[.string PN, .slice xa PL.length xc] 38)).alloc (.cells #[.int .i64 PE, .int .i64 PA] 31)) := hg2.alloc.alloc
          obtain ⟨r0, r1, f0, f1, lt⟩ := (HR1.out.gr HG.out).gr gf
          have HGf : Hid (Gr w ((w2.alloc (.cells #[.string PN, .slice xa PL.length xc] 38)).alloc (.cells #[.int .i64 PE, .int .i64 PA] 31))) := (HG1.out.trans HG.out).trans gf
          have hlt2 : w.heap.size < w2.heap.size := Nat.lt_of_lt_of_le (HR1.out.gr HG.out).lt hg2.size
          obtain ⟨q0, q1, _, _, ql⟩ := TwoAt.new (w2.alloc (.cells #[.string PN, .slice xa PL.length xc] 38)) (.int .i64 PE) (.int .i64 PA) 31 (w2.heap.size + 1) (by simp)
          go_wp2_with fail
          obtain ⟨V, hV⟩ : ∃ V, V = (w2.alloc (.cells #[.string PN, .slice xa PL.length xc] 38)).alloc (.cells #[.int .i64 PE, .int .i64 PA] 31) := ⟨_, rfl⟩
          rw [← hV] at r0 r1 f0 f1 lt HGf q0 q1 ql ⊢
          clear hV gf hg2 hst hnew
          go_region
          all_goals go_wp2
          all_goals refine bodyPost_ret (v := .tuple #[.slice none 0 0, .agg #[.int .i64 PE, .int .i64 PA]]) (by simp [results, Tryz.results9, go_sem, *]) rfl ?_
          all_goals refine rf_none HE1.out HE2.out HE3.out ?_
          all_goals (first | exact ((HGf.out.set _ (by simp) _).set _ (by simp) _).drew | exact (HGf.out.drew.set _ (by simp) _).set _ (by simp) _)
  · have hFn : (scF s.data.toList == 0) = false := by simpa using hF
    have HRE : Hid (Bk.rE s.data.toList = scF s.data.toList) := by show _ = _; unfold Bk.rE; rw [if_pos hF]
    have HRA : Hid (Bk.rA s.data.toList = scA s.data.toList) := by show _ = _; unfold Bk.rA; rw [if_pos hF]
    have HRD : Hid (Bk.rD s.data.toList = []) := by show _ = _; unfold Bk.rD; rw [if_pos hF]
    generalize scT s.data.toList = T at *
    generalize scA s.data.toList = SA at *
    generalize scF s.data.toList = SF at *
    generalize Bk.rE s.data.toList = RE at *
    generalize Bk.rA s.data.toList = RA at *
    generalize Bk.rD s.data.toList = RB at *
    clear hF
    go_enter Tryz.func9, Tryz.ntmps9
    go_wp2_with fail
    refine (HS.out _).mono ?_
    rintro e w1 ⟨adT, capT, rfl, hcT, hTok, hTn, hg1⟩
    have gf : Gr w1 (w1.alloc (.cells #[.int .i64 SF, .int .i64 SA] 31)) := (Gr.refl w1).alloc
    obtain ⟨r0, r1, f0, f1, lt⟩ := (HR0.out.gr hg1).gr gf
    have HGf : Hid (Gr w (w1.alloc (.cells #[.int .i64 SF, .int .i64 SA] 31))) := ((Gr.refl w).alloc.trans hg1).trans gf
    have hlt2 : w.heap.size < w1.heap.size := (HR0.out.gr hg1).lt
    obtain ⟨q0, q1, _, _, ql⟩ := TwoAt.new w1 (.int .i64 SF) (.int .i64 SA) 31 _ rfl
    go_wp2_with fail
    obtain ⟨V, hV⟩ : ∃ V, V = w1.alloc (.cells #[.int .i64 SF, .int .i64 SA] 31) := ⟨_, rfl⟩
    rw [← hV] at r0 r1 f0 f1 lt HGf q0 q1 ql ⊢
    clear hV gf hg1 hTok hTn
    go_region
    all_goals go_wp2
    all_goals refine bodyPost_ret (v := .tuple #[.slice none 0 0, .agg #[.int .i64 SF, .int .i64 SA]]) (by simp [results, Tryz.results9, go_sem, *]) rfl ?_
    all_goals refine rf_none HRE.out HRA.out HRD.out ?_
    all_goals (first | exact ((HGf.out.set _ (by simp) _).set _ (by simp) _).drew | exact (HGf.out.drew.set _ (by simp) _).set _ (by simp) _)
end Go.Proofs.YtfobfpigbfepoaaGreatDoor
namespace Go.Proofs.YtfobfpigbfepoaaGreatDoor
open Go.ChangeShapes Go.WideShapes Go.ChangeAt Go.RowKit
open Lex (Tok)
theorem own2 : ownKnob Tryz.prog.godebug = none := by kernel_rfl
theorem laidOut2 : laidOutB Tryz.prog = true := by kernel_rfl
theorem rng_i64 {n : Int} (h : (Lit.int .i64 n).wf = true) : -9223372036854775808 ≤ n ∧ n ≤ 9223372036854775807 := by
  simp only [Lit.wf, Bool.and_eq_true, decide_eq_true_eq] at h
  exact h
theorem len_max {n : Nat} (h : n ≤ maxLen) : n ≤ 9223372036854775807 := by unfold maxLen at h; omega
end Go.Proofs.YtfobfpigbfepoaaGreatDoor
namespace Go.Proofs.YtfobfpigbfepoaaGreatDoor
open Go.ChangeShapes Go.WideShapes Go.ChangeAt Go.RowKit
open Df (Stp)
theorem row_of {α : Type} {f : α → List Value} {c : Nat} (hc : ∀ x, (f x).length = c) (h0 : 0 < c) {w : World} {b off : Nat} {L : List α}
    (each : ∀ q (h : q < L.length) r u, (f L[q])[r]? = some u → w.cell? ⟨b, off + (q * c + r), none⟩ = some u) : RowAt f w (some ⟨b, off, none⟩) L := by
  intro j u hu
  have hj : j < (L.flatMap f).length := by
    rcases Nat.lt_or_ge j (L.flatMap f).length with h | h
    · exact h
    · rw [List.getElem?_eq_none h] at hu; cases hu
  rw [flat_len hc] at hj
  have hr : j % c < c := Nat.mod_lt _ h0
  have hq : j / c < L.length := Nat.div_lt_of_lt_mul (by rw [Nat.mul_comm]; exact hj)
  have e : j = j / c * c + j % c := by rw [Nat.mul_comm]; exact (Nat.div_add_mod j c).symm
  rw [e, flat_get hc L (j / c) hq (j % c) hr] at hu
  have h := each (j / c) hq (j % c) u hu
  rw [← e] at h
  exact ⟨b, off, rfl, World.block_lt_of_cell? w _ h, h⟩
theorem open_rows {α : Type} [Inhabited α] {f : α → List Value} {c : Nat} (hc : ∀ x, (f x).length = c) (h0 : 0 < c) {In : α → Prop} {t e : TypeId} (ht : Tryz.prog.underlying t = some (.slice e)) (ce : Tryz.prog.cellsOf e = c)
    {H : Type} {enc : TypeId × Value → H} {W : World} {base : Nat} {sp : Nat → Bool} {held : Bool} {fuel : Nat} {a0 : Option Addr} {len0 cap0 : Nat} {x : DataW H × List MemPlace}
    (elem : ∀ (n : Nat) (cs : List Value) (y : DataW H × List MemPlace), cs.length = c → DataW.trod enc Tryz.prog W base sp held n e cs = some y → ∃ z : α, cs = f z ∧ In z)
    (hf : DataW.trod enc Tryz.prog W base sp held fuel t [.slice a0 len0 cap0] = some x) :
    ∃ L : List α, len0 = L.length ∧ RowAt f W a0 L ∧ L.length ≤ 9223372036854775807 ∧ ∀ y ∈ L, In y := by
  rcases Deep.open_slice ht hf with ⟨hcs, _⟩ | ⟨a, len, cap, m, n, D, Pl, hcs, _, hl, hm, hmm, _, hx⟩
  · simp at hcs
    obtain ⟨rfl, rfl, rfl⟩ := hcs
    exact ⟨[], rfl, RowAt.nil, by simp, by simp⟩
  · simp at hcs
    obtain ⟨rfl, rfl, rfl⟩ := hcs
    have hlm : len0 ≤ m := by rw [hmm]; split <;> omega
    have each : ∀ i, i < len0 → ∃ z : α, (∀ r u, (f z)[r]? = some u → W.cell? (a.add (i * c + r)) = some u) ∧ In z := by
      intro i hi
      obtain ⟨cs, h1, h2⟩ := hx i (by omega)
      rw [ce] at h1
      obtain ⟨_, hlen, hcell⟩ := World.cells?_some h1
      obtain ⟨z, rfl, hz⟩ := elem n cs _ hlen h2
      refine ⟨z, fun r u hu => ?_, hz⟩
      have hr : r < c := by
        rcases Nat.lt_or_ge r (f z).length with h | h
        · rw [hc] at h; exact h
        · rw [List.getElem?_eq_none h] at hu; cases hu
      have c0 := hcell r hr
      rw [Deep.add_add] at c0
      rw [c0, ← hu]
    obtain ⟨g, hg⟩ := Deep.choose_lt each
    unfold maxLen at hm
    refine ⟨(List.range len0).map g, by simp, ?_, by simp; omega, ?_⟩
    · cases len0 with
      | zero => simp; exact RowAt.nil
      | succ l =>
        obtain ⟨b, off, spot⟩ := a
        have h00 : 0 < (f (g 0)).length := by rw [hc]; exact h0
        have hspot : spot = none := by
          have := World.cell?_spot ((hg 0 (by omega)).1 0 _ (List.getElem?_eq_getElem h00))
          simpa [Addr.add] using this
        subst hspot
        refine row_of hc h0 fun q hq r u hu => ?_
        have hq' : q < l + 1 := by simpa using hq
        have := (hg q hq').1 r u (by simpa using hu)
        rwa [Addr.add_lit] at this
    · intro y hy
      obtain ⟨j, hj, rfl⟩ := List.mem_map.1 hy
      exact (hg j (by simpa using hj)).2
set_option maxRecDepth 100000 in
theorem trod_act {H : Type} {enc : TypeId × Value → H} {W : World} {base : Nat} {sp : Nat → Bool} {held : Bool} {fuel : Nat} {u v q : Value} {x : DataW H × List MemPlace}
    (h : DataW.trod enc Tryz.prog W base sp held fuel 76 [u, v, q] = some x) : ∃ k s n, u = .int .i64 k ∧ v = .string s ∧ q = .int .i64 n ∧ inI k ∧ s.size ≤ 9223372036854775807 ∧ inI n := by
  obtain ⟨y0, y1, y2, n, _, _, t0, t1, t2⟩ := Deep.trod_struct3 Tryz.underlying76 h
  have k0 : Tryz.prog.cellsOf 3 = 1 := by kernel_rfl
  have k1 : Tryz.prog.cellsOf 9 = 1 := by kernel_rfl
  have k2 : Tryz.prog.cellsOf 2 = 1 := by kernel_rfl
  simp [k0, k1, k2] at t0 t1 t2
  obtain ⟨z0, e0, _, r0⟩ := DataW.trod_int Tryz.underlying3 t0
  obtain ⟨z1, e1, _, r1⟩ := DataW.trod_string Tryz.underlying9 t1
  obtain ⟨z2, e2, _, r2⟩ := DataW.trod_int Tryz.underlying2 t2
  simp at e0 e1 e2
  subst e0 e1 e2
  unfold maxLen at r1
  exact ⟨z0, z1, z2, rfl, rfl, rfl, rng_i64 r0, by omega, rng_i64 r2⟩
theorem trod_struct5 {P : Program} {H : Type} {enc : TypeId × Value → H} {w : World} {base : Nat} {spare : Nat → Bool} {held : Bool} {t : TypeId} {f0 f1 f2 f3 f4 : Field} {fuel : Nat} {cs : List Value} {x : DataW H × List MemPlace} (ht : P.underlying t = some (.struct #[f0, f1, f2, f3, f4])) (h : DataW.trod enc P w base spare held fuel t cs = some x) :
    ∃ y0 y1 y2 y3 y4 n, DataW.trod enc P w base spare held n f0.type ((cs.drop f0.offset).take (P.cellsOf f0.type)) = some y0 ∧
      DataW.trod enc P w base spare held n f1.type ((cs.drop f1.offset).take (P.cellsOf f1.type)) = some y1 ∧ DataW.trod enc P w base spare held n f2.type ((cs.drop f2.offset).take (P.cellsOf f2.type)) = some y2 ∧
      DataW.trod enc P w base spare held n f3.type ((cs.drop f3.offset).take (P.cellsOf f3.type)) = some y3 ∧ DataW.trod enc P w base spare held n f4.type ((cs.drop f4.offset).take (P.cellsOf f4.type)) = some y4 := by
  obtain ⟨xs, n, _, rfl, hl, hlen, hf⟩ := DataW.trod_struct ht h
  match xs, hlen with
  | [y0, y1, y2, y3, y4], _ => exact ⟨y0, y1, y2, y3, y4, n, by simpa using hf 0 f0 rfl, by simpa using hf 1 f1 rfl, by simpa using hf 2 f2 rfl, by simpa using hf 3 f3 rfl, by simpa using hf 4 f4 rfl⟩
set_option maxRecDepth 100000 in
theorem trod_stp {H : Type} {enc : TypeId × Value → H} {W : World} {base : Nat} {sp : Nat → Bool} {held : Bool} (n : Nat) (cs : List Value) (y : DataW H × List MemPlace) (hl : cs.length = 7)
    (h : DataW.trod enc Tryz.prog W base sp held n 78 cs = some y) : ∃ z : Stp, cs = stpC z ∧ inS z := by
  match cs, hl with
  | [v0, v1, v2, v3, v4, v5, v6], _ =>
    obtain ⟨y0, y1, y2, y3, y4, n, t0, t1, t2, t3, t4⟩ := trod_struct5 Tryz.underlying78 h
    have k0 : Tryz.prog.cellsOf 3 = 1 := by kernel_rfl
    have k1 : Tryz.prog.cellsOf 9 = 1 := by kernel_rfl
    have k3 : Tryz.prog.cellsOf 76 = 3 := by kernel_rfl
    simp [k0, k1, k3] at t0 t1 t2 t3 t4
    obtain ⟨o, e1, _, r1⟩ := DataW.trod_int Tryz.underlying3 t1
    obtain ⟨u, e2, _, r2⟩ := DataW.trod_string Tryz.underlying9 t2
    obtain ⟨ty, e3, _, r3⟩ := DataW.trod_int Tryz.underlying3 t3
    obtain ⟨wt, e4, _, r4⟩ := DataW.trod_int Tryz.underlying3 t4
    simp at e1 e2 e3 e4
    subst e1 e2 e3 e4
    obtain ⟨k, a, m, rfl, rfl, rfl, h1, h2, h3⟩ := trod_act t0
    unfold maxLen at r2
    exact ⟨⟨k, a, m, o, u, ty, wt⟩, rfl, h2, (by show u.size ≤ _; omega), h1, h3, rng_i64 r1, rng_i64 r3, rng_i64 r4⟩
theorem trod_struct2 {P : Program} {H : Type} {enc : TypeId × Value → H} {w : World} {base : Nat} {spare : Nat → Bool} {held : Bool} {t : TypeId} {f0 f1 : Field} {fuel : Nat} {cs : List Value} {x : DataW H × List MemPlace} (ht : P.underlying t = some (.struct #[f0, f1])) (h : DataW.trod enc P w base spare held fuel t cs = some x) :
    ∃ y0 y1 n, DataW.trod enc P w base spare held n f0.type ((cs.drop f0.offset).take (P.cellsOf f0.type)) = some y0 ∧ DataW.trod enc P w base spare held n f1.type ((cs.drop f1.offset).take (P.cellsOf f1.type)) = some y1 := by
  obtain ⟨xs, n, _, rfl, hl, hlen, hf⟩ := DataW.trod_struct ht h
  match xs, hlen with
  | [y0, y1], _ => exact ⟨y0, y1, n, by simpa using hf 0 f0 rfl, by simpa using hf 1 f1 rfl⟩
set_option maxRecDepth 100000 in
theorem trod_dm {H : Type} {enc : TypeId × Value → H} {W : World} {base : Nat} {sp : Nat → Bool} {held : Bool} (n : Nat) (cs : List Value) (y : DataW H × List MemPlace) (hl : cs.length = 2)
    (h : DataW.trod enc Tryz.prog W base sp held n 38 cs = some y) : ∃ z : Dm, cs = dmC z ∧ (StpsAt W z.ad z.L ∧ inD z) := by
  match cs, hl with
  | [v0, v1], _ =>
    obtain ⟨y0, y1, n, t0, t1⟩ := trod_struct2 Tryz.underlying38 h
    have k0 : Tryz.prog.cellsOf 9 = 1 := by kernel_rfl
    have k1 : Tryz.prog.cellsOf 36 = 1 := by kernel_rfl
    simp [k0, k1] at t0 t1
    obtain ⟨nm, e0, _, r0⟩ := DataW.trod_string Tryz.underlying9 t0
    simp at e0
    subst e0
    have s1 : ∃ a l c, v1 = .slice a l c := by
      rcases Deep.open_slice Tryz.underlying36 t1 with ⟨hcs, _⟩ | ⟨a, len, cap, _, _, _, _, hcs, _⟩
      · simp at hcs; exact ⟨_, _, _, hcs⟩
      · simp at hcs; exact ⟨_, _, _, hcs⟩
    obtain ⟨b, lb, cb, rfl⟩ := s1
    have hiA : Inhabited Stp := ⟨⟨0, ⟨#[]⟩, 0, 0, ⟨#[]⟩, 0, 0⟩⟩
    obtain ⟨L, rfl, h1, h2, h3⟩ := open_rows stpC_len (by decide) Tryz.underlying36 (by kernel_rfl) trod_stp t1
    unfold maxLen at r0
    exact ⟨⟨nm, b, cb, L⟩, rfl, h1, (by show nm.size ≤ _; omega), h2, h3⟩
set_option maxRecDepth 100000 in
theorem open_defs {H : Type} {enc : TypeId × Value → H} {W : World} {base : Nat} {v : Value} {d : DataW H} {ps : List MemPlace}
    (hok : Value.okWide Tryz.prog W .any base 22 v) (h : DataW.Trod enc Tryz.prog W 0 (fun _ => true) true 22 v d ps) :
    ∃ ad cap, ∃ D : List Dm, v = .slice ad D.length cap ∧ BkAt W ad D ∧ D.length ≤ 9223372036854775807 ∧ (ad = none → cap = 0) ∧ D.length ≤ cap ∧ cap ≤ 9223372036854775807 := by
  obtain ⟨a0, len0, cap0, rfl⟩ := okWide_slice Tryz.underlying22 hok
  obtain ⟨fuel, hf⟩ := h
  simp only [Value.cells] at hf
  have hiA : Inhabited Dm := ⟨⟨⟨#[]⟩, none, 0, []⟩⟩
  obtain ⟨D, rfl, h1, h2, h3⟩ := open_rows dmC_len (by decide) Tryz.underlying22 (by kernel_rfl) (trod_dm (W := W)) hf
  refine ⟨a0, cap0, D, rfl, ⟨h1, fun d hd => (h3 d hd).1, fun d hd => (h3 d hd).2⟩, h2, ?_⟩
  rcases Deep.open_slice Tryz.underlying22 hf with ⟨hcs, _⟩ | ⟨a, len, cap, m, n, D', Pl, hcs, _, hl, hm, hmm, _, hx⟩
  · simp at hcs
    obtain ⟨rfl, e, rfl⟩ := hcs
    exact ⟨fun _ => rfl, by simp [e], by omega⟩
  · simp at hcs
    obtain ⟨rfl, e, rfl⟩ := hcs
    unfold maxLen at hm
    exact ⟨(fun e => by cases e), by omega, by omega⟩
end Go.Proofs.YtfobfpigbfepoaaGreatDoor
