/- What the proof is made of, part 15. -/
import Derived.Test.YtfobfpigbfepoaaGreatDoorTLBTexts14
import Derived.BigRegion
namespace Go.Proofs.YtfobfpigbfepoaaGreatDoor
open Go.RowKit
open Df (Stp)
def AdE (D M : List Bk.Dn) : Int := if Bk.mayB D = true then Bk.addE D M else 2
def AdD (D M : List Bk.Dn) : List Bk.Dn := if Bk.mayB D = true then Bk.addD D M else []
def AdR (w : World) (B : List Bk.Dn) (z : Int) (e : Ending) (w' : World) : Prop :=
  ∃ a c R, e = .returned (.tuple #[.slice a R.length c, .int .i64 z]) ∧ Book w' w.heap.size (.slice a R.length c) R ∧ dns R = B ∧ Gr w w'
theorem own_grown {w w' : World} {base : Nat} {v : Value} {D : List Dm} (h : Book w base v D) {a : World} (g : Gr a w) (k : w.grownBy w' v.ownBlock) (hb : a.heap.size ≤ base) : Gr a w' :=
  g.grown k (fun b e => by have := (h.own.lt b e).1; omega)
set_option maxHeartbeats 8000000 in
set_option maxRecDepth 100000 in
theorem add_any (D M : List Dm) (ad : Option Addr) (cap : Nat) (adM : Option Addr) (capM : Nat) (w : World) (hB : BkAt w ad D) (hM : BkAt w adM M) (hn : D.length ≤ 9223372036854775807) (hm : M.length ≤ 9223372036854775807) :
    Calls Tryz.prog 12 #[.slice ad D.length cap, .slice adM M.length capM] w fun e w' => AdR w (AdD (dns D) (dns M)) (AdE (dns D) (dns M)) e w' := by
  obtain ⟨i0, hi0, hz0, hz1, hz2⟩ := info_parts infoDef
  have HMa : Hid (∀ w', Gr w w' → Calls Tryz.prog 13 #[.slice ad D.length cap] w' fun e w2 => e = .returned (.int .i64 (Bk.mayE (dns D))) ∧ Gr w' w2) := fun w' g => may_any D ad cap w' (hB.gr g) hn
  cases hmay : Bk.mayB (dns D) with
  | false =>
    have e1 : AdD (dns D) (dns M) = [] := by unfold AdD; rw [hmay]; rfl
    have e2 : AdE (dns D) (dns M) = 2 := by unfold AdE; rw [hmay]; rfl
    rw [e1, e2]
    rw [Bk.may_not hmay] at HMa
    clear hmay e1 e2 hB hM
    go_enter Tryz.func12, Tryz.ntmps12
    go_wp2_with fail
    refine (HMa.out _ (by repeat (first | exact Gr.refl _ | refine Gr.alloc ?_ | refine Gr.drew ?_ | refine Gr.trans ?_ (by assumption)))).mono ?_
    rintro e w1 ⟨rfl, hg1⟩
    go_wp2
    go_ret2
    exact ⟨none, 0, [], rfl, Book.nil _ _, rfl, (by (repeat' (first | with_reducible exact Gr.refl _ | with_reducible refine Gr.set ?_ _ ?_ _ | with_reducible refine Gr.alloc ?_ | with_reducible refine Gr.drew ?_ | with_reducible refine Gr.trans ?_ (by assumption))) <;> (first | (simp; done) | (simp; omega) | omega))⟩
  | true =>
    have HE1 : Hid (AdD (dns D) (dns M) = Bk.addD (dns D) (dns M)) := by show _ = _; unfold AdD; rw [hmay]; rfl
    have HE2 : Hid (AdE (dns D) (dns M) = Bk.addE (dns D) (dns M)) := by show _ = _; unfold AdE; rw [hmay]; rfl
    rw [Bk.may_ok hmay] at HMa
    obtain ⟨m1, m2, m3⟩ := (Bk.may_iff _).1 hmay
    rw [dns_len] at m1
    have HC : Hid (∀ (j : Nat) (h : j < D.length) w', Gr w w' → Calls Tryz.prog 28 #[.agg #[.string D[j].nm, .slice D[j].ad D[j].L.length D[j].cap]] w' fun e w2 => ∃ a c, e = .returned (.agg #[.string D[j].nm, .slice a D[j].L.length c]) ∧ w2.ownsRow w'.heap.size 78 7 (.slice a D[j].L.length c) D[j].L.length (D[j].L.flatMap stpC) ∧ Gr w' w2) := fun j h w' g => by
      obtain ⟨z1, z2, z3⟩ := ok_small (m2 D[j].dn (List.mem_map.2 ⟨_, List.getElem_mem h, rfl⟩))
      exact copied_any D[j] w' ((hB.gr g).st _ (List.getElem_mem h)) z2 z1 z3
    have HDr := Lib.hid hB.row
    have HDn : Hid (∀ d ∈ D, inD d) := hB.rng
    have HMr := Lib.hid hM
    have HMay : Hid (Bk.mayB (dns D) = true) := hmay
    clear hmay m2 m3 hB hM
    go_enter Tryz.func12, Tryz.ntmps12
    go_wp2_with fail
    refine (HMa.out _ (by repeat (first | exact Gr.refl _ | refine Gr.alloc ?_ | refine Gr.drew ?_ | refine Gr.trans ?_ (by assumption)))).mono ?_
    rintro e w1 ⟨rfl, hg1⟩
    have HG1 : Hid (Gr w w1) := (by repeat (first | exact Gr.refl _ | refine Gr.alloc ?_ | refine Gr.drew ?_ | refine Gr.trans ?_ (by assumption)))
    clear hg1 HMa
    go_wp2
    go_loopw [7, 20] (fun s7 s20 wr => ∃ (k : Nat) (a : Option Addr) (c : Nat) (R : List Dm), s20 = .int .i64 k ∧ s7 = .slice a R.length c ∧ k ≤ D.length ∧ R.length = k ∧ dns R = (dns D).take k ∧ Book wr w.heap.size (.slice a R.length c) R ∧ Gr w wr) (fun _ s20 _ => D.length - (intOf s20).toNat)
    case atStart => exact ⟨0, none, 0, [], rfl, rfl, Nat.zero_le _, rfl, by simp [dns], Book.nil _ _, HG1.out⟩
    case round =>
      clear HG1
      obtain ⟨k, a, c, R, rfl, rfl, hk, hR, hRD, hbk, hg⟩ := hrel
      have HG : Hid (Gr w wr) := hg
      have HBk := Lib.hid hbk
      have HRD := Lib.hid hRD
      have hRb : R.length ≤ 8 := by omega
      have HRk : Hid (R.length = k) := hR
      clear hg hbk hRD hR
      by_cases hlt : k < D.length
      · obtain ⟨b, off, rfl, hb, d0, d1⟩ := DmsAt.at HDr.out k hlt
        have d0 := HG.out.keep d0
        have d1 := HG.out.keep d1
        have hbw : b < wr.heap.size := Nat.lt_of_lt_of_le hb HG.out.size
        have hki : (k : Int) < (D.length : Int) := by omega
        have hC := HC.out k hlt
        have HIn : Hid (inD D[k]) := HDn.out _ (List.getElem_mem hlt)
        have HT : Hid ((dns D).take (k + 1) = (dns D).take k ++ [D[k].dn]) := by
          show _ = _
          rw [List.take_succ_eq_append_getElem (by rw [dns_len]; exact hlt), dns_get D k hlt]
        generalize D[k] = x at *
        have HX : Hid (∀ w', Gr w w' → Calls Tryz.prog 28 #[.agg #[.string x.nm, .slice x.ad x.L.length x.cap]] w' fun e w2 => ∃ a c, e = .returned (.agg #[.string x.nm, .slice a x.L.length c]) ∧ w2.ownsRow w'.heap.size 78 7 (.slice a x.L.length c) x.L.length (x.L.flatMap stpC) ∧ Gr w' w2) := hC
        clear hC HC
        obtain ⟨xn, xa, xc, xl⟩ := x
        dsimp only at *
        go_wp2_with fail
        refine (HX.out _ (HG.out.trans (by repeat (first | exact Gr.refl _ | refine Gr.alloc ?_ | refine Gr.drew ?_ | refine Gr.trans ?_ (by assumption))))).mono ?_
        rintro e w2 ⟨a2, c2, rfl, hr, hg2⟩
        have gw2 : Gr wr w2 := (by repeat (first | exact Gr.refl _ | refine Gr.alloc ?_ | refine Gr.drew ?_ | refine Gr.trans ?_ (by assumption)))
        have HB2 := Lib.hid (HBk.out.gr (gw2.alloc (o := .cells #[.string xn, .slice a2 xl.length c2] 38)))
        have HR2 := Lib.hid (own_gr2 (own_low hr (by have := HG.out.size; have := ((Gr.refl wr).alloc (o := .cells #[.string xn, .slice xa xl.length xc] 38)).size; omega : w.heap.size ≤ _)) ((Gr.refl w2).alloc (o := .cells #[.string xn, .slice a2 xl.length c2] 38)))
        have HG2 : Hid (Gr w (w2.alloc (.cells #[.string xn, .slice a2 xl.length c2] 38))) := (HG.out.trans gw2).alloc
        have HNw : Hid (∀ j u, ([(⟨xn, a2, c2, xl⟩ : Dm)].flatMap dmC)[j]? = some u → (w2.alloc (.cells #[.string xn, .slice a2 xl.length c2] 38)).cell? ((⟨w2.heap.size, 0, none⟩ : Addr).add j) = some u) := by
          intro j u h
          rw [Addr.add_lit, Nat.zero_add, cell_of_row _ w2.heap.size j _ _ _ (heap_alloc_new w2 _)]
          simpa [dmC] using h
        clear hr
        go_wp2_with (first
          | (at_builtin; refine wpList_append_own _ rfl _ _ 22 rfl w.heap.size 38 i0 (.agg #[.string ⟨#[]⟩, .slice none 0 0]) 2 40 Tryz.underlying22 hi0 hz0 hz1 hz2 rfl (by decide) _ _ _ rfl HB2.out.own ⟨w2.heap.size, 0, none⟩ 1 1 ([(⟨xn, a2, c2, xl⟩ : Dm)].flatMap dmC) rfl rfl HNw.out (dm_one _) (by unfold maxLen; omega) (by omega) (by have := HG2.out.size; omega) ?_)
          | fail)
        intro v' w3 hown' hgrow _
        have hown2 : w3.ownsRow w.heap.size 38 2 v' (R ++ [(⟨xn, a2, c2, xl⟩ : Dm)]).length ((R ++ [(⟨xn, a2, c2, xl⟩ : Dm)]).flatMap dmC) := by
          rw [List.flatMap_append, List.length_append]; exact hown'
        have hne : (Value.slice a2 xl.length c2).ownBlock = none ∨ (Value.slice a2 xl.length c2).ownBlock ≠ (Value.slice a R.length c).ownBlock := by
          cases e : (Value.slice a R.length c).ownBlock with
          | none => exact own_or _
          | some b => exact Or.inr (own_apart HB2.out.own HR2.out (by decide) e)
        have hbk : Book w3 w.heap.size v' (R ++ [(⟨xn, a2, c2, xl⟩ : Dm)]) := by
          refine ⟨hown2, fun d hd => ?_, fun d hd => ?_⟩
          · rcases List.mem_append.1 hd with hd | hd
            · exact HB2.out.turn hgrow d hd
            · rw [List.mem_singleton] at hd; subst hd; exact HR2.out.kept hgrow hne
          · rcases List.mem_append.1 hd with hd | hd
            · exact HBk.out.rng d hd
            · rw [List.mem_singleton] at hd; subst hd; exact HIn.out
        obtain ⟨a', c', e', _⟩ := hbk.at
        subst e'
        have HBF := Lib.hid hbk
        have HGF := Lib.hid (own_grown HB2.out HG2.out hgrow (Nat.le_refl _))
        have hlen : (R ++ [(⟨xn, a2, c2, xl⟩ : Dm)]).length = k + 1 := by rw [List.length_append, HRk.out]; rfl
        have HL : Hid (dns (R ++ [(⟨xn, a2, c2, xl⟩ : Dm)]) = (dns D).take (k + 1)) := by
          show _ = _
          rw [HT.out, ← HRD.out]; simp [dns, Dm.dn]
        clear hown' hown2 hgrow hne hbk
        generalize R ++ [(⟨xn, a2, c2, xl⟩ : Dm)] = R2 at *
        go_wp2
        go_roundw
        case rel => exact ⟨k + 1, a', c', R2, by go_num, by rw [hlen], by omega, hlen, HL.out, HBF.out, HGF.out⟩
        case measure => simp [intOf]; omega
      · have hge : ¬ ((k : Int) < (D.length : Int)) := by omega
        have HRD2 : Hid (dns R = dns D) := by
          show _ = _
          rw [HRD.out, List.take_of_length_le (by rw [dns_len]; omega)]
        clear HRD HC
        have HG0 := HG
        have HB0 := HBk
        clear HRk hk hlt HG HBk hRb
        obtain ⟨R0, hR0⟩ : ∃ x, x = R := ⟨_, rfl⟩
        rw [← hR0] at HB0 HRD2
        go_wp2
        go_loopw [7, 32] (fun s7 s32 wr => ∃ (k : Nat) (a : Option Addr) (c : Nat) (R : List Dm), s32 = .int .i64 k ∧ s7 = .slice a R.length c ∧ k ≤ M.length ∧ Bk.addE (dns D) ((dns M).take k) = 0 ∧ dns R = Bk.addD (dns D) ((dns M).take k) ∧ Book wr w.heap.size (.slice a R.length c) R ∧ Gr w wr) (fun _ s32 _ => M.length - (intOf s32).toNat)
        case atStart => exact ⟨0, a, c, R0, rfl, by rw [hR0], Nat.zero_le _, by rw [List.take_zero]; rfl, by rw [List.take_zero]; exact HRD2.out, by rw [hR0] at HB0 ⊢; exact HB0.out, HG0.out⟩
        case round =>
          clear HG0 HB0 HRD2 hR0 hge
          clear R0
          obtain ⟨k, a, c, R, rfl, rfl, hk, hA, hRD, hbk, hg⟩ := hrel
          have hmR : Bk.mayB (dns R) = true := by rw [hRD]; exact Bk.add_may _ _ HMay.out hA
          by_cases hlt : k < M.length
          · obtain ⟨b, off, rfl, hb, d0, d1⟩ := DmsAt.at HMr.out.row k hlt
            have d0 := hg.keep d0
            have d1 := hg.keep d1
            have hbw : b < wr.heap.size := Nat.lt_of_lt_of_le hb hg.size
            have hki : (k : Int) < (M.length : Int) := by omega
            have HPt : Hid (∀ w', Gr wr w' → Calls Tryz.prog 22 #[.slice a R.length c, .agg #[.string M[k].nm, .slice M[k].ad M[k].L.length M[k].cap]] w' fun e w2 => PuR w' w.heap.size (.slice a R.length c) (dns R) M[k].dn e w2) := fun w' g => put_any R M[k] a c w.heap.size w' (hbk.gr g) hmR ((HMr.out.st _ (List.getElem_mem hlt)).gr (hg.trans g)) (HMr.out.rng _ (List.getElem_mem hlt)) (hg.trans g).size
            have HSt : Hid (Bk.addE (dns D) ((dns M).take (k + 1)) = Bk.putE (dns R) M[k].dn ∧ (Bk.putE (dns R) M[k].dn = 0 → Bk.addD (dns D) ((dns M).take (k + 1)) = Bk.ins (dns R) M[k].dn)) := by
              have := Bk.add_step (dns D) (dns M) k (by rw [dns_len]; exact hlt) hA
              rw [← hRD, dns_get M k hlt] at this
              exact this
            have HNo : Hid (Bk.putE (dns R) M[k].dn ≠ 0 → AdE (dns D) (dns M) = Bk.putE (dns R) M[k].dn ∧ AdD (dns D) (dns M) = []) := by
              intro hp
              have h1 := Bk.add_stop (dns D) (dns M) k (by rw [dns_len]; exact hlt) hA
              rw [← hRD, dns_get M k hlt] at h1
              have h2 := h1 hp
              exact ⟨HE2.out.trans h2, HE1.out.trans (Bk.add_no _ _ (by rw [h2]; exact hp))⟩
            have HG : Hid (Gr w wr) := hg
            have HBk := Lib.hid hbk
            clear hg hbk hmR hA hRD
            generalize M[k] = x at *
            obtain ⟨xn, xa, xc, xl⟩ := x
            dsimp only at *
            go_wp2_with fail
            refine (HPt.out _ (by repeat (first | exact Gr.refl _ | refine Gr.alloc ?_ | refine Gr.drew ?_ | refine Gr.trans ?_ (by assumption)))).mono ?_
            rintro e w2 (⟨hp, rfl, hg2⟩ | ⟨hp, a2, c2, R2, rfl, hbk2, hd2, hgr2⟩)
            · obtain ⟨n1, n2⟩ := HNo.out hp
              have hpn : (Bk.putE (dns R) (⟨xn, xa, xc, xl⟩ : Dm).dn == 0) = false := by simpa using hp
              have HN1 := Lib.hid n1
              have HN2 := Lib.hid n2
              clear n1 n2 HNo HSt HPt hp
              generalize Bk.putE (dns R) (⟨xn, xa, xc, xl⟩ : Dm).dn = z at *
              have HGF : Hid (Gr w w2) := HG.out.trans (by repeat (first | exact Gr.refl _ | refine Gr.alloc ?_ | refine Gr.drew ?_ | refine Gr.trans ?_ (by assumption)))
              go_wp2
              go_ret2
              rw [HN1.out, HN2.out]
              exact ⟨none, 0, [], rfl, Book.nil _ _, rfl, HGF.out⟩
            · obtain ⟨s1, s2⟩ := HSt.out
              rw [hp] at s1
              have s2 := s2 hp
              have HS1 := Lib.hid s1
              have HS2 := Lib.hid (hd2.trans s2.symm)
              have HB2 := Lib.hid hbk2
              have HGF := Lib.hid (own_grown (HBk.out.gr (Gr.refl wr).alloc) (HG.out.alloc) hgr2 (Nat.le_refl _))
              clear s1 s2 hd2 hbk2 hgr2 hp
              go_wp2
              go_roundw
              case rel => exact ⟨k + 1, a2, c2, R2, by go_num, rfl, by omega, HS1.out, HS2.out, HB2.out, HGF.out⟩
              case measure => simp [intOf]; omega
          · have hge : ¬ ((k : Int) < (M.length : Int)) := by omega
            have ht : (dns M).take k = dns M := List.take_of_length_le (by rw [dns_len]; omega)
            rw [ht] at hA hRD
            have HF1 := Lib.hid (HE1.out.trans hRD.symm)
            have HF2 := Lib.hid (HE2.out.trans hA)
            have HBk := Lib.hid hbk
            have HG : Hid (Gr w wr) := hg
            clear hbk hg hA hRD hmR ht
            go_wp2
            go_ret2
            rw [HF1.out, HF2.out]
            exact ⟨a, c, R, rfl, HBk.out, rfl, HG.out⟩
end Go.Proofs.YtfobfpigbfepoaaGreatDoor
namespace Go.Proofs.YtfobfpigbfepoaaGreatDoor
open Go.RowKit
open Lex (Tok ckE okT endT szs jz)
theorem slice_low (ad : Option Addr) (n cap c : Nat) (hc : c ≤ n) (hn : n ≤ cap) (W : World) :
    (Instr.sliceAt 57 (.slice ad n cap) none (some (.int .i64 c)) none).run Tryz.prog W = .ok (.slice ad c cap) W := by
  have h1 : (c : Int) ≤ cap := by omega
  go_simp
set_option maxHeartbeats 4000000 in
set_option maxRecDepth 100000 in
theorem check_any (T : List Tok) (ad : Option Addr) (cap : Nat) (w : World) (hT : ToksAt w ad T) (hc : T.length ≤ cap) (hn : T.length ≤ 5000) (hz : ∀ x ∈ T, x.t.size ≤ 9223372036854775807) :
    Calls Tryz.prog 72 #[.slice ad T.length cap] w fun e w' => e = .returned (.int .i64 (ckE T)) ∧ Gr w w' := by
  rcases List.eq_nil_or_concat T with rfl | ⟨I, x, rfl⟩
  · rw [Lex.ck_none]
    go_enter Tryz.func72, Tryz.ntmps72
    go_wp2
    go_ret
    exact ⟨rfl, Gr.refl _⟩
  rw [List.concat_eq_append] at *
  have HK : Hid (ckE (I ++ [x]) = if endT x = true then (if I.all okT = true then (if 2000 < jz I then 3 else 0) else 80) else 80) := Lex.ck_snoc I x
  have hlen : (I ++ [x]).length = I.length + 1 := by simp
  rw [hlen] at hc hn ⊢
  obtain ⟨b, off, rfl, hb, k0, k1, k2⟩ := hT I.length (by rw [hlen]; omega)
  clear k2
  rw [List.getElem_append_right (Nat.le_refl _)] at k0 k1
  simp only [Nat.sub_self, List.getElem_cons_zero] at k0 k1
  have HT : Hid (∀ j (h : j < I.length), w.cell? ⟨b, off + j * 3, none⟩ = some (.int .i64 I[j].k) ∧ w.cell? ⟨b, off + j * 3 + 1, none⟩ = some (.string I[j].t) ∧ w.cell? ⟨b, off + j * 3 + 2, none⟩ = some (.int .i64 I[j].p)) := by
    intro j h
    obtain ⟨b', off', e, _, h1, h2, h3⟩ := hT j (by rw [hlen]; omega)
    cases e
    rw [List.getElem_append_left h] at h1 h2 h3
    exact ⟨h1, h2, h3⟩
  have HZ : Hid (∀ j (h : j < I.length), I[j].t.size ≤ 9223372036854775807) := fun j h => hz _ (by simp)
  have hw1 : wrap64 ((I.length : Int) + 1 - 1) = (I.length : Int) := by unfold wrap64; omega
  have hsl := slice_low (some ⟨b, off, none⟩) (I.length + 1) cap I.length (by omega) hc
  clear hT hz hlen
  have hlt0 : ¬ ((I.length : Int) < 0) := by omega
  by_cases he1 : x.k = 0
  · have e1 : (x.k != 0) = false := by simpa using he1
    have hb0 := text_ne x.t []
    rw [show (⟨[].toArray⟩ : ByteArray) = ⟨#[]⟩ from rfl] at hb0
    by_cases he2 : x.t = ⟨#[]⟩
    · rw [decide_eq_true he2, show (!true) = false from rfl] at hb0
      have hb2 : (x.t.toList == []) = true := by simpa using hb0
      have HK2 : Hid (ckE (I ++ [x]) = if I.all okT = true then (if 2000 < jz I then 3 else 0) else 80) := by
        show _ = _
        rw [HK.out, if_pos]
        unfold Lex.endT
        rw [decide_eq_true he1, decide_eq_true he2]; rfl
      have HM : Hid (∀ (j : Nat) (h : j < I.length) (w' : World), Calls Tryz.prog 71 #[.agg #[.int .i64 I[j].k, .string I[j].t, .int .i64 I[j].p]] w' fun e w2 => e = .returned (.bool (okT I[j])) ∧ Gr w' w2) := fun j h w' => mayBe_any _ _ _ w' (HZ.out j h)
      obtain ⟨z, hzz⟩ : ∃ z : Nat, z = I.length - 1 := ⟨_, rfl⟩
      have hmx : max ((I.length : Int) - 1) 0 = (z : Int) := by omega
      have HB1 : Hid (∀ j, (∀ i (hi : i < I.length), i < j → okT I[i] = true) → j ≤ I.length → szs (I.take j) ≤ 16 * j) := by
        intro j ha hj
        have := Lex.szs_bound (I.take j) (fun y hy => by
          obtain ⟨i, hi, rfl⟩ := List.getElem_of_mem hy
          rw [List.length_take] at hi
          rw [List.getElem_take]
          exact ha i (by omega) (by omega))
        rw [List.length_take] at this
        omega
      clear HK he1 he2
      generalize ckE (I ++ [x]) = CK at *
      go_enter Tryz.func72, Tryz.ntmps72
      go_wp2
      go_loopw [4, 35] (fun z' i' wr => ∃ i : Nat, i ≤ I.length ∧ i' = .int .i64 (i : Int) ∧ z' = .int .i64 ((z + szs (I.take i) : Nat) : Int) ∧ Gr w wr ∧ ∀ j (hj : j < I.length), j < i → okT I[j] = true) (fun _ i' _ => I.length - (intOf i').toNat)
      case atStart => exact ⟨0, by omega, rfl, by simp [Lex.szs]; omega, Gr.refl _, fun j _ h => absurd h (by omega)⟩
      case round =>
        obtain ⟨i, hi, rfl, rfl, hg, ha⟩ := hrel
        have HA : Hid (∀ j (hj : j < I.length), j < i → okT I[j] = true) := ha
        have HG : Hid (Gr w wr) := hg
        have hbd := HB1.out i ha hi
        clear ha hg
        by_cases hlt : i < I.length
        · obtain ⟨c0, c1, c2⟩ := HT.out i hlt
          replace c0 := HG.out.keep c0
          replace c1 := HG.out.keep c1
          replace c2 := HG.out.keep c2
          have hbw : b < wr.heap.size := Nat.lt_of_lt_of_le hb HG.out.size
          go_wp2_with fail
          refine (HM.out i hlt _).mono ?_
          rintro e w2 ⟨rfl, hg2⟩
          have hx1 := (BoxAt.new wr (.int .i64 I[i].k) (.string I[i].t) (.int .i64 I[i].p) 65 _ rfl).gr hg2
          have HG2 : Hid (Gr w w2) := HG.out.trans ((Gr.refl _).alloc.trans hg2)
          obtain ⟨x0, x1, x2, _, _, _, xl⟩ := hx1
          cases hok : okT I[i] with
          | false =>
            have HE : Hid (CK = 80) := by
              show _ = _
              rw [HK2.out, Lex.all_nidx I okT i hlt hok]; rfl
            clear hok
            go_wp2
            go_ret
            exact ⟨by rw [HE.out]; rfl, HG2.out⟩
          | true =>
            have hsz := (Lex.may_size hok).2
            have HS : Hid (okT I[i] = true) := hok
            have HZT : Hid (szs (I.take (i + 1)) = szs (I.take i) + I[i].t.size) := Lex.szs_take I i hlt
            clear hok c0 c1 c2
            generalize szs (I.take i) = za at *
            have hz5 : z ≤ 5000 := by omega
            clear hw1 hsl hmx hzz k0 k1 hb0 hb2 e1
            go_wp2
            go_roundw
            case rel => exact ⟨i + 1, by omega, by go_num, by rw [HZT.out]; congr 1; omega, HG2.out, fun j hj h => if e : j = i then by subst e; exact HS.out else HA.out j hj (by omega)⟩
            case measure => simp [intOf]; omega
        · obtain rfl : i = I.length := by omega
          have hall : I.all okT = true := Lex.all_idx I okT (fun j hj => HA.out j hj hj)
          have HE : Hid (CK = if 2000 < z + szs I then 3 else 0) := by
            show _ = _
            rw [HK2.out, if_pos hall, hzz]
            unfold Lex.jz
            rw [Nat.add_comm]
          rw [List.take_length] at hbd ⊢
          clear hall
          generalize szs I = za at *
          by_cases hbig : 2000 < z + za
          · have hbi : (2000 : Int) < ((z + za : Nat) : Int) := by omega
            rw [if_pos hbig] at HE
            go_wp2
            go_ret
            exact ⟨by rw [HE.out]; rfl, HG.out⟩
          · have hbi : ¬ (2000 : Int) < ((z + za : Nat) : Int) := by omega
            rw [if_neg hbig] at HE
            go_wp2
            go_ret
            exact ⟨by rw [HE.out]; rfl, HG.out⟩
    · have HE : Hid (ckE (I ++ [x]) = 80) := by
        show _ = _
        rw [HK.out, if_neg]
        unfold Lex.endT
        rw [decide_eq_false he2]; simp
      rw [decide_eq_false he2, show (!false) = true from rfl] at hb0
      have hb2 : (x.t.toList == []) = false := by simpa using hb0
      clear HK he2
      generalize ckE (I ++ [x]) = CK at *
      go_enter Tryz.func72, Tryz.ntmps72
      go_wp2
      go_ret
      exact ⟨by rw [HE.out]; rfl, Gr.refl _⟩
  · have HE : Hid (ckE (I ++ [x]) = 80) := by
      show _ = _
      rw [HK.out, if_neg]
      unfold Lex.endT
      rw [decide_eq_false he1]; simp
    have e1 : (x.k != 0) = true := by simpa using he1
    clear HK
    generalize ckE (I ++ [x]) = CK at *
    go_enter Tryz.func72, Tryz.ntmps72
    go_wp2
    go_ret
    exact ⟨by rw [HE.out]; rfl, Gr.refl _⟩
end Go.Proofs.YtfobfpigbfepoaaGreatDoor
namespace Go.Proofs.YtfobfpigbfepoaaGreatDoor
open Go.RowKit
open Lex (Tok ckE valE numB)
open Df (Stp St tk Gd isT defB chE stpB one opt fin stps prs defN defR sm kw pE pA pT pN pL)
open _root_.Go.Proofs.YtfobfpigbfepoaaGreatDoor.Act (nameB)
theorem val_rng {t : ByteArray} (h : t.size ≤ 16) : 0 ≤ valE 2 t ∧ valE 2 t < 10000000000000000 := by
  unfold Lex.valE
  by_cases hn : numB t = true
  · rw [if_pos ⟨rfl, hn⟩]
    obtain ⟨_, p16, pd⟩ := Lex.num_parts hn
    refine Lex.vl_rng _ (by simpa using h) (fun b hb => ?_)
    obtain ⟨j, hj, rfl⟩ := List.getElem_of_mem hb
    exact pd j (by simpa using hj)
  · rw [if_neg (fun e => hn e.2)]; omega
theorem sm_rng {t : ByteArray} (h : t.size ≤ 16) : inI (sm t) := by
  have := val_rng h
  unfold Df.sm inI
  split <;> omega
theorem fin_in {T : List Tok} {x : Nat × Option Int} {f : Int → Stp} {s : Stp} (hf : ∀ n, x.2 = some n → inS (f n)) (h : (fin T x f).2 = some s) : inS s := by
  unfold Df.fin at h
  cases hx : x.2 with
  | none => rw [hx] at h; cases h
  | some n =>
    rw [hx] at h
    simp only at h
    split at h
    · simp only [Option.some.injEq] at h; subst h; exact hf n hx
    · cases h
theorem opt_in {T : List Tok} (hT : Gd T) {i : Nat} {wd : ByteArray} {d n : Int} (hd : inI d) (h : (opt T i wd d).2 = some n) : inI n := by
  unfold Df.opt at h
  split at h
  · split at h
    · simp only [Option.some.injEq] at h; subst h; exact sm_rng (hT.size _)
    · cases h
  · simp only [Option.some.injEq] at h; subst h; exact hd
theorem one_in {T : List Tok} (hT : Gd T) {i : Nat} {s : Stp} (h : (one T i).2 = some s) : inS s := by
  have z : inI 0 := by unfold inI; omega
  have hz := fun j => hT.size j
  unfold Df.one at h
  split at h
  · split at h
    · split at h
      · refine fin_in (fun n hn => ?_) h
        have := opt_in hT (by unfold inI; omega) hn
        exact ⟨by show (⟨#[]⟩ : ByteArray).size ≤ _; decide, by show (tk T (i + 2)).t.size ≤ _; have := hz (i + 2); omega, z, z, sm_rng (hz _), z, this⟩
      · cases h
    · cases h
  · split at h
    · split at h
      · split at h
        · refine fin_in (fun n hn => ?_) h
          have := opt_in hT (by unfold inI; omega) hn
          have hv := val_rng (hz (i + 2))
          have hk := Df.kw_range (tk T i).t
          exact ⟨by show (tk T (i + 1)).t.size ≤ _; have := hz (i + 1); omega, by show (⟨#[]⟩ : ByteArray).size ≤ _; decide, by unfold inI; show _ ≤ kw _ ∧ kw _ ≤ _; omega, by unfold inI; show _ ≤ valE 2 _ ∧ valE 2 _ ≤ _; omega, z, this, z⟩
        · cases h
      · cases h
    · cases h
theorem stps_in {T : List Tok} (hT : Gd T) : ∀ (f i : Nat) (L M : List Stp), (∀ s ∈ L, inS s) → (stps T f i L).2 = some M → ∀ s ∈ M, inS s := by
  intro f
  induction f with
  | zero => intro i L M _ h; cases h
  | succ f ih =>
    intro i L M hL h
    unfold Df.stps at h
    split at h
    · simp only [Option.some.injEq] at h; subst h; exact hL
    · rcases hx : one T i with ⟨j, o⟩
      rw [hx] at h
      cases o with
      | none => cases h
      | some s =>
        refine ih j (L ++ [s]) M (fun x hx' => ?_) h
        rcases List.mem_append.1 hx' with h1 | h1
        · exact hL x h1
        · rw [List.mem_singleton] at h1; subst h1; exact one_in hT (by rw [hx])
theorem prs_in {T : List Tok} (hT : Gd T) {i : Nat} {nm : ByteArray} {L : List Stp} (h : (prs T i).2 = some (nm, L)) : (∀ s ∈ L, inS s) ∧ nm.size ≤ 16 := by
  unfold Df.prs at h
  split at h
  · split at h
    · split at h
      · rcases hx : stps T (T.length + 1) (i + 3) [] with ⟨j, o⟩
        rw [hx] at h
        cases o with
        | none => cases h
        | some M =>
          simp only [Option.some.injEq, Prod.mk.injEq] at h
          obtain ⟨h1, h2⟩ := h
          subst h1 h2
          exact ⟨stps_in hT _ _ [] M (by simp) (by rw [hx]), hT.size _⟩
      · cases h
    · cases h
  · cases h
def PaR (w : World) (nm : ByteArray) (L : List Stp) (t e p : Int) (en : Ending) (w' : World) : Prop :=
  ∃ a c, en = .returned (.tuple #[.agg #[.string nm, .slice a L.length c], .int .i64 t, .agg #[.int .i64 e, .int .i64 p]]) ∧ StpsAt w' a L ∧ L.length ≤ c ∧ (∀ x, a = some x → w.heap.size ≤ x.block) ∧ Gr w w'
theorem tok_place (k p : Int) (t : ByteArray) (W : World) : (Instr.field 65 (.agg #[.int .i64 k, .string t, .int .i64 p]) 2).run Tryz.prog W = .ok (.int .i64 p) W := by kernel_rfl
set_option maxHeartbeats 8000000 in
set_option maxRecDepth 100000 in
theorem dParse_bad (T : List Tok) (ad : Option Addr) (cap : Nat) (at' : Int) (w : World) (hT : ToksAt w ad T) (hc : T.length ≤ cap) (hn : T.length ≤ 5000) (hz : ∀ x ∈ T, x.t.size ≤ 9223372036854775807) (h : ckE T = 80 ∨ ¬ (0 ≤ at' ∧ at' < T.length)) :
    Calls Tryz.prog 38 #[.slice ad T.length cap, .int .i64 at'] w fun e w' => PaR w ⟨#[]⟩ [] 0 (if ckE T = 80 then 80 else 2) 0 e w' := by
  have HC : Hid (∀ w', Gr w w' → Calls Tryz.prog 72 #[.slice ad T.length cap] w' fun e w2 => e = .returned (.int .i64 (ckE T)) ∧ Gr w' w2) := fun w' g => check_any T ad cap w' (hT.gr g) hc hn hz
  have HW : Hid (∀ w', Calls Tryz.prog 56 #[.int .i64 at', .int .i64 0, .int .i64 ((T.length : Int) - 1)] w' fun e w2 => e = .returned (.bool (decide (0 ≤ at') && decide (at' ≤ (T.length : Int) - 1))) ∧ w2 = w') := fun w' => within_any at' 0 _ w'
  have HA0 := Lib.hid (TwoAt.new w (.string ⟨#[]⟩) (.slice none 0 0) 38 _ rfl)
  have HB0 := Lib.hid (TwoAt.new (w.alloc (.cells #[.string ⟨#[]⟩, .slice none 0 0] 38)) (.int .i64 0) (.int .i64 0) 31 (w.heap.size + 1) (by simp))
  have hlw : wrap64 ((T.length : Int) - 1) = (T.length : Int) - 1 := by unfold wrap64; omega
  by_cases h80 : ckE T = 80
  · rw [if_pos h80]
    rw [h80] at HC
    clear hT hz h h80 HW hlw
    go_enter Tryz.func38, Tryz.ntmps38
    go_wp2_with fail
    refine (HC.out _ (by repeat (first | exact Gr.refl _ | refine Gr.alloc ?_ | refine Gr.drew ?_ | refine Gr.trans ?_ (by assumption)))).mono ?_
    rintro e w1 ⟨rfl, hg⟩
    have HG1 : Hid (Gr w w1) := (Gr.refl _).alloc.alloc.trans hg
    obtain ⟨a0, a1, af0, af1, al⟩ := (HA0.out.gr (Gr.refl _).alloc).gr hg
    obtain ⟨b0, b1, bf0, bf1, bl⟩ := HB0.out.gr hg
    clear hg
    go_wp2
    refine bodyPost_ret (v := .tuple #[.agg #[.string ⟨#[]⟩, .slice none 0 0], .int .i64 0, .agg #[.int .i64 80, .int .i64 0]]) (by simp [results, Tryz.results38, go_sem, *]) rfl ⟨none, 0, rfl, RowAt.nil, by simp, (fun x e => by cases e), ?_⟩
    have hg1 := HG1.out
    exact (by (repeat' (first | with_reducible exact Gr.refl _ | with_reducible refine Gr.set ?_ _ ?_ _ | with_reducible refine Gr.alloc ?_ | with_reducible refine Gr.drew ?_ | with_reducible refine Gr.trans ?_ (by assumption))) <;> (first | (simp; done) | (simp; omega) | omega))
  · rw [if_neg h80]
    have hb : (ckE T == 80) = false := by simpa using h80
    have hwb : (decide (0 ≤ at') && decide (at' ≤ (T.length : Int) - 1)) = false := by
      cases hq : (decide (0 ≤ at') && decide (at' ≤ (T.length : Int) - 1)) with
      | false => rfl
      | true =>
        simp only [Bool.and_eq_true, decide_eq_true_eq] at hq
        rcases h with h | h
        · exact absurd h h80
        · exact absurd ⟨hq.1, by omega⟩ h
    rw [hwb] at HW
    generalize ckE T = CK at *
    clear hT hz h h80 hwb
    go_enter Tryz.func38, Tryz.ntmps38
    go_wp2_with fail
    refine (HC.out _ (by repeat (first | exact Gr.refl _ | refine Gr.alloc ?_ | refine Gr.drew ?_ | refine Gr.trans ?_ (by assumption)))).mono ?_
    rintro e w1 ⟨rfl, hg⟩
    have HG1 : Hid (Gr w w1) := (Gr.refl _).alloc.alloc.trans hg
    obtain ⟨a0, a1, af0, af1, al⟩ := (HA0.out.gr (Gr.refl _).alloc).gr hg
    obtain ⟨b0, b1, bf0, bf1, bl⟩ := HB0.out.gr hg
    clear hg
    go_wp2_with fail
    refine (HW.out _).mono ?_
    rintro e w2 ⟨rfl, hw⟩; obtain rfl := hw.symm
    go_wp2
    refine bodyPost_ret (v := .tuple #[.agg #[.string ⟨#[]⟩, .slice none 0 0], .int .i64 0, .agg #[.int .i64 2, .int .i64 0]]) (by simp [results, Tryz.results38, go_sem, *]) rfl ⟨none, 0, rfl, RowAt.nil, by simp, (fun x e => by cases e), ?_⟩
    have hg1 := HG1.out
    exact (by (repeat' (first | with_reducible exact Gr.refl _ | with_reducible refine Gr.set ?_ _ ?_ _ | with_reducible refine Gr.alloc ?_ | with_reducible refine Gr.drew ?_ | with_reducible refine Gr.trans ?_ (by assumption))) <;> (first | (simp; done) | (simp; omega) | omega))
end Go.Proofs.YtfobfpigbfepoaaGreatDoor
namespace Go.Proofs.YtfobfpigbfepoaaGreatDoor
open Go.RowKit
open Lex (Tok ckE valE numB)
open Df (Stp St tk Gd isT defB chE stpB one opt fin stps prs defN defR sm kw pE pA pT pN pL)
theorem Rd.new {w : World} {ad : Option Addr} {T : List Tok} {cap i m : Nat} (hT : ToksAt w ad T) (h0 : 0 < T.length) (hm : MapK w m) (t : TypeId) (g : Nat) (hg : g = w.heap.size) : Rd (w.alloc (.cells #[.slice ad T.length cap, .int .i64 (i : Int), .bool false, .map (some m)] t)) g m ad T cap ⟨i, false⟩ := by
  subst hg
  obtain ⟨tb, off, e, htb, _⟩ := hT 0 h0
  refine ⟨by simp, by simp, by simp, by simp, by simp [go_sem], by simp [go_sem], by simp, hT.gr (Gr.refl _).alloc, ?_, hm.gr (Gr.refl _).alloc, ?_⟩
  · intro a ea
    rw [e] at ea
    cases ea
    exact ⟨by show tb ≠ _; omega, by simp; omega⟩
  · have := hm.lt; omega
def PrW (T : List Tok) (i : Nat) (F : St × List Stp) (w : World) (nm : ByteArray) (e : Ending) (w' : World) : Prop :=
  (F.1.s = true → PaR w ⟨#[]⟩ [] 0 81 (tk T F.1.i).p e w') ∧ (F.1.s = false → defB nm F.2 = false → PaR w ⟨#[]⟩ [] 0 90 (tk T i).p e w') ∧ (F.1.s = false → defB nm F.2 = true → PaR w nm F.2 (F.1.i : Int) 0 0 e w')
set_option maxHeartbeats 8000000 in
set_option maxRecDepth 100000 in
theorem dParse_good (T : List Tok) (ad : Option Addr) (cap : Nat) (i : Nat) (w : World) (hT : ToksAt w ad T) (hc : T.length ≤ cap) (hn : T.length ≤ 5000) (hz : ∀ x ∈ T, x.t.size ≤ 9223372036854775807) (h80 : ckE T ≠ 80) (hi : i < T.length)
    (hin : (defR T i).1.s = false → ∀ s ∈ (defR T i).2, inS s) (hnm : (defN T i).size ≤ 16) :
    Calls Tryz.prog 38 #[.slice ad T.length cap, .int .i64 (i : Int)] w fun e w' => PrW T i (defR T i) w (defN T i) e w' := by
  have hG := Df.gd_of h80
  have HC : Hid (∀ w', Gr w w' → Calls Tryz.prog 72 #[.slice ad T.length cap] w' fun e w2 => e = .returned (.int .i64 (ckE T)) ∧ Gr w' w2) := fun w' g => check_any T ad cap w' (hT.gr g) hc hn hz
  have HW : Hid (∀ w', Calls Tryz.prog 56 #[.int .i64 (i : Int), .int .i64 0, .int .i64 ((T.length : Int) - 1)] w' fun e w2 => e = .returned (.bool true) ∧ w2 = w') := fun w' => by
    have := within_any (i : Int) 0 ((T.length : Int) - 1) w'
    rw [show (decide ((0 : Int) ≤ (i : Int)) && decide ((i : Int) ≤ (T.length : Int) - 1)) = true by simp; omega] at this
    exact this
  have HK : Hid (∀ w', Calls Tryz.prog 73 #[] w' fun e w2 => e = .returned (.map (some w'.heap.size)) ∧ MapK w2 w'.heap.size ∧ Gr w' w2) := fun w' => kinds_any w'
  have HD : Hid (∀ (b m : Nat) (w' : World), Rd w' b m ad T cap ⟨i, false⟩ → Calls Tryz.prog 74 #[.pointer (some ⟨b, 0, none⟩)] w' fun e w2 => DfR w' b m ad T cap (defN T i) (defR T i) e w2) := fun b m w' h => dDef_any b m ad T cap i w' h hG hi hn
  have HH : Hid (∀ (b m : Nat) (q : St) (w' : World), q.i < T.length → Rd w' b m ad T cap q → Calls Tryz.prog 75 #[.pointer (some ⟨b, 0, none⟩)] w' fun e w2 => e = .returned (.agg #[.int .i64 (tk T q.i).k, .string (tk T q.i).t, .int .i64 (tk T q.i).p]) ∧ Gr w' w2) := fun b m q w' hq h => dHere_any b m ad T cap q w' h hq
  have HX : Hid ((defR T i).1.s = false → ∀ (a : Option Addr) (c : Nat) (w' : World), (defR T i).2.length ≤ 5001 → StpsAt w' a (defR T i).2 → Calls Tryz.prog 29 #[.agg #[.string (defN T i), .slice a (defR T i).2.length c]] w' fun e w2 => e = .returned (.int .i64 (chE (defN T i) (defR T i).2)) ∧ Gr w' w2) := fun hs a c w' hl h => dCheck_any _ _ a c w' h (by omega) (by omega) (hin hs)
  have hlw : wrap64 ((T.length : Int) - 1) = (T.length : Int) - 1 := by unfold wrap64; omega
  have hb : (ckE T == 80) = false := by simpa using h80
  have HA0 := Lib.hid (TwoAt.new w (.string ⟨#[]⟩) (.slice none 0 0) 38 _ rfl)
  have HB0 := Lib.hid (TwoAt.new (w.alloc (.cells #[.string ⟨#[]⟩, .slice none 0 0] 38)) (.int .i64 0) (.int .i64 0) 31 (w.heap.size + 1) (by simp))
  have HT : Hid (ToksAt w ad T) := hT
  have HP : Hid (0 < T.length ∧ i < T.length ∧ T.length ≤ 5000) := ⟨by omega, hi, hn⟩
  have HCE : Hid (chE (defN T i) (defR T i).2 = if defB (defN T i) (defR T i).2 = true then 0 else 90) := rfl
  generalize ckE T = CK at *
  generalize defR T i = F at *
  generalize defN T i = NM at *
  obtain ⟨⟨fi, fs⟩, M⟩ := F
  simp only at *
  generalize chE NM M = CE at *
  generalize hDB : defB NM M = DB at *
  have HDB := Lib.hid hDB
  clear hT hz h80 hG hin hnm hDB
  go_enter Tryz.func38, Tryz.ntmps38
  go_wp2_with fail
  refine (HC.out _ (by repeat (first | exact Gr.refl _ | refine Gr.alloc ?_ | refine Gr.drew ?_ | refine Gr.trans ?_ (by assumption)))).mono ?_
  rintro e w1 ⟨rfl, hg⟩
  have HG1 : Hid (Gr w w1) := (Gr.refl _).alloc.alloc.trans hg
  have HA1 := Lib.hid ((HA0.out.gr (Gr.refl _).alloc).gr hg)
  have HB1 := Lib.hid (HB0.out.gr hg)
  clear hg HA0 HB0 HC
  go_wp2_with fail
  refine (HW.out _).mono ?_
  rintro e w2 ⟨rfl, hw⟩; obtain rfl := hw.symm
  clear HW
  go_wp2_with fail
  refine (HK.out _).mono ?_
  rintro e w2 ⟨rfl, hmk, hg⟩
  have HG2 : Hid (Gr w w2) := HG1.out.trans hg
  have HA2 := Lib.hid (HA1.out.gr hg)
  have HB2 := Lib.hid (HB1.out.gr hg)
  have HR2 := Lib.hid (Rd.new (i := i) (cap := cap) (HT.out.gr HG2.out) HP.out.1 hmk 125 _ rfl)
  clear hg hmk HA1 HB1 HG1 HK
  go_wp2_with fail
  refine (HD.out _ _ _ HR2.out).mono ?_
  rintro e w3 ⟨a, c, rfl, hst, hrd, hgb, hlc, hlt, hfi, hfr⟩
  simp only at hst hrd hlc hlt hfi
  have HG3 : Hid (Gr w w3) := Gr.gb HG2.out.alloc hgb HG2.out.size
  have HA3 := Lib.hid ((HA2.out.gr (Gr.refl _).alloc).grown hgb.g (by have := HA2.out.lt; simp; omega))
  have HB3 := Lib.hid ((HB2.out.gr (Gr.refl _).alloc).grown hgb.g (by have := HB2.out.lt; simp; omega))
  have HS3 := Lib.hid hst
  have HR3 := Lib.hid hrd
  have HE3 : Hid (M.length ≤ c ∧ M.length ≤ 5001 ∧ fi < T.length ∧ ∀ x, a = some x → w.heap.size + 2 ≤ x.block) := ⟨hlc, by have := HP.out; omega, hfi, fun x e => by have := hfr x e; have := HB2.out.lt; simp at *; omega⟩
  have HDD := Lib.hid (TwoAt.new w3 (.string NM) (.slice a M.length c) 38 _ rfl)
  have HB2n : Hid (w.heap.size + 2 ≤ w2.heap.size) := HB2.out.lt
  clear hst hrd hgb hlc hlt hfi hfr HA2 HB2 HG2 HR2 HD
  cases fs with
  | true =>
    obtain ⟨r0, r1, r2, r3, _, _, rl, _, _, _, _⟩ := HR3.out
    simp only at r1 r2
    go_wp2_with fail
    refine (HH.out _ _ _ _ HE3.out.2.2.1 (HR3.out.gr (Gr.refl _).alloc)).mono ?_
    rintro e w4 ⟨rfl, hg⟩
    simp only
    have hpl := tok_place (tk T fi).k (tk T fi).p (tk T fi).t
    have HG4 : Hid (Gr w w4) := HG3.out.alloc.trans hg
    obtain ⟨a0, a1, af0, af1, al⟩ := (HA3.out.gr (Gr.refl _).alloc).gr hg
    obtain ⟨b0, b1, bf0, bf1, bl⟩ := (HB3.out.gr (Gr.refl _).alloc).gr hg
    generalize hx : tk T fi = x at *
    obtain ⟨xk, xt, xp⟩ := x
    simp only at *
    have HXX := Lib.hid hx
    clear hg hx
    go_wp2
    refine bodyPost_ret (v := .tuple #[.agg #[.string ⟨#[]⟩, .slice none 0 0], .int .i64 0, .agg #[.int .i64 81, .int .i64 xp]]) (by simp [results, Tryz.results38, go_sem, *]) rfl ⟨fun _ => ?_, fun h => (by cases h), fun h => (by cases h)⟩
    show PaR w ⟨#[]⟩ [] 0 81 (tk T fi).p _ _
    rw [HXX.out]
    refine ⟨none, 0, rfl, RowAt.nil, by simp, (fun x e => by cases e), ?_⟩
    have hg4 := HG4.out
    exact (by (repeat' (first | with_reducible exact Gr.refl _ | with_reducible refine Gr.set ?_ _ ?_ _ | with_reducible refine Gr.alloc ?_ | with_reducible refine Gr.drew ?_ | with_reducible refine Gr.trans ?_ (by assumption))) <;> (first | (simp; done) | (simp; omega) | omega))
  | false =>
    obtain ⟨r0, r1, r2, r3, _, _, rl, _, _, _, _⟩ := HR3.out
    simp only at r1 r2
    go_wp2_with fail
    refine (HX.out (by first | rfl | trivial) _ _ _ HE3.out.2.1 (HS3.out.gr (Gr.refl _).alloc)).mono ?_
    rintro e w4 ⟨rfl, hg⟩
    have HG4 : Hid (Gr w w4) := HG3.out.alloc.trans hg
    have HS4 := Lib.hid ((HS3.out.gr (Gr.refl _).alloc).gr hg)
    obtain ⟨a0, a1, af0, af1, al⟩ := (HA3.out.gr (Gr.refl _).alloc).gr hg
    obtain ⟨b0, b1, bf0, bf1, bl⟩ := (HB3.out.gr (Gr.refl _).alloc).gr hg
    obtain ⟨d0, d1, df0, df1, dl⟩ := HDD.out.gr hg
    obtain ⟨s0, s1, s2, s3, _, _, sl, _, _, _, _⟩ := (HR3.out.gr (Gr.refl _).alloc).gr hg
    simp only at s1 s2
    clear hg r0 r1 r2 r3 rl
    have n1 : ¬ w2.heap.size = w.heap.size := by have := HB2n.out; omega
    have n2 : ¬ w.heap.size = w2.heap.size := by have := HB2n.out; omega
    have n3 : ¬ w2.heap.size = w.heap.size + 1 := by have := HB2n.out; omega
    have n4 : ¬ w.heap.size + 1 = w2.heap.size := by have := HB2n.out; omega
    have n5 : ¬ w3.heap.size = w.heap.size := by have := HB3.out.lt; omega
    have n6 : ¬ w.heap.size = w3.heap.size := by have := HB3.out.lt; omega
    have n7 : ¬ w3.heap.size = w.heap.size + 1 := by have := HB3.out.lt; omega
    have n8 : ¬ w.heap.size + 1 = w3.heap.size := by have := HB3.out.lt; omega
    cases DB with
    | true =>
      obtain rfl : CE = 0 := HCE.out
      go_wp2
      go_region
      go_wp2
      refine bodyPost_ret (v := .tuple #[.agg #[.string NM, .slice a M.length c], .int .i64 (fi : Int), .agg #[.int .i64 0, .int .i64 0]]) (by simp [results, Tryz.results38, go_sem, *]) rfl ⟨fun h => (by cases h), fun _ h => (by rw [HDB.out] at h; cases h), fun _ _ => ?_⟩
      have hg4 := HG4.out
      refine ⟨a, c, rfl, ?_, HE3.out.1, fun x e => by have := HE3.out.2.2.2 x e; omega, (by (repeat' (first | with_reducible exact Gr.refl _ | with_reducible refine Gr.set ?_ _ ?_ _ | with_reducible refine Gr.alloc ?_ | with_reducible refine Gr.drew ?_ | with_reducible refine Gr.trans ?_ (by assumption))) <;> (first | (simp; done) | (simp; omega) | omega))⟩
      repeat (first | with_reducible exact HS4.out | with_reducible refine RowAt.setFar ?_ _ _ (fun x e => by have := HE3.out.2.2.2 x e; simp; omega) | with_reducible refine RowAt.drew ?_ | with_reducible refine RowAt.gr ?_ ((Gr.refl _).drewN _))
    | false =>
      obtain rfl : CE = 90 := HCE.out
      obtain ⟨tb, off, rfl, htb, t0, t1, t2⟩ := (HT.out.gr HG4.out) i HP.out.2.1
      rw [← Df.tk_get T i HP.out.2.1] at t0 t1 t2
      generalize hx : tk T i = x at *
      obtain ⟨xk, xt, xp⟩ := x
      simp only at *
      have HXX := Lib.hid hx
      clear hx
      go_wp2
      go_region
      go_wp2
      refine bodyPost_ret (v := .tuple #[.agg #[.string ⟨#[]⟩, .slice none 0 0], .int .i64 0, .agg #[.int .i64 90, .int .i64 xp]]) (by simp [results, Tryz.results38, go_sem, *]) rfl ⟨fun h => (by cases h), fun _ _ => ?_, fun _ h => (by rw [HDB.out] at h; cases h)⟩
      rw [HXX.out]
      refine ⟨none, 0, rfl, RowAt.nil, by simp, (fun x e => by cases e), ?_⟩
      have hg4 := HG4.out
      exact (by (repeat' (first | with_reducible exact Gr.refl _ | with_reducible refine Gr.set ?_ _ ?_ _ | with_reducible refine Gr.alloc ?_ | with_reducible refine Gr.drew ?_ | with_reducible refine Gr.trans ?_ (by assumption))) <;> (first | (simp; done) | (simp; omega) | omega))
theorem take_size {T : List Tok} (hT : Gd T) (i : Nat) : (defN T i).size ≤ 16 := takeV_size hT _ 1
theorem dParse_any (T : List Tok) (ad : Option Addr) (cap : Nat) (at' : Int) (w : World) (hT : ToksAt w ad T) (hc : T.length ≤ cap) (hn : T.length ≤ 5000) (hz : ∀ x ∈ T, x.t.size ≤ 9223372036854775807) :
    Calls Tryz.prog 38 #[.slice ad T.length cap, .int .i64 at'] w fun e w' => PaR w (pN T at') (pL T at') (pT T at') (pE T at') (pA T at') e w' := by
  by_cases h80 : ckE T = 80
  · have e1 : pE T at' = 80 := by unfold Df.pE; rw [if_pos h80]
    have e2 : pA T at' = 0 := by unfold Df.pA; rw [if_pos h80]
    have e3 : pT T at' = 0 := by unfold Df.pT; rw [e1]; rfl
    have e4 : pN T at' = ⟨#[]⟩ := by unfold Df.pN; rw [e1]; rfl
    have e5 : pL T at' = [] := by unfold Df.pL; rw [e1]; rfl
    rw [e1, e2, e3, e4, e5]
    have := dParse_bad T ad cap at' w hT hc hn hz (Or.inl h80)
    rw [if_pos h80] at this
    exact this
  · by_cases hat : 0 ≤ at' ∧ at' < T.length
    · obtain ⟨i, rfl⟩ : ∃ i : Nat, at' = (i : Int) := ⟨at'.toNat, by omega⟩
      have hi : i < T.length := by omega
      have hG := Df.gd_of h80
      obtain ⟨h1, h2, h3⟩ := Df.def_same hG i hi
      cases ho : (prs T i).2 with
      | none =>
        obtain ⟨M, hM⟩ := h2 ho
        have e1 : pE T (i : Int) = 81 := by unfold Df.pE; rw [if_neg h80, if_pos hat, Int.toNat_natCast, ho]
        have e2 : pA T (i : Int) = (tk T (prs T i).1).p := by unfold Df.pA; rw [if_neg h80, if_pos hat, Int.toNat_natCast, ho]
        have e3 : pT T (i : Int) = 0 := by unfold Df.pT; rw [e1]; rfl
        have e4 : pN T (i : Int) = ⟨#[]⟩ := by unfold Df.pN; rw [e1]; rfl
        have e5 : pL T (i : Int) = [] := by unfold Df.pL; rw [e1]; rfl
        rw [e1, e2, e3, e4, e5]
        refine (dParse_good T ad cap i w hT hc hn hz h80 hi (fun h => by rw [hM] at h; cases h) (take_size hG i)).mono ?_
        rintro e w' ⟨q1, _, _⟩
        have := q1 (by rw [hM])
        rwa [hM] at this
      | some x =>
        obtain ⟨nm, L⟩ := x
        obtain ⟨hF, hN⟩ := h1 nm L ho
        obtain ⟨p1, p2⟩ := prs_in hG ho
        have hch : pE T (i : Int) = chE nm L := by unfold Df.pE; rw [if_neg h80, if_pos hat, Int.toNat_natCast, ho]
        have hpa : pA T (i : Int) = if defB nm L = true then 0 else (tk T i).p := by unfold Df.pA; rw [if_neg h80, if_pos hat, Int.toNat_natCast, ho]
        have hgo := dParse_good T ad cap i w hT hc hn hz h80 hi (fun _ => by rw [hF]; exact p1) (take_size hG i)
        cases hd : defB nm L with
        | true =>
          have e1 : pE T (i : Int) = 0 := by rw [hch]; exact Df.ch_yes hd
          have e2 : pA T (i : Int) = 0 := by rw [hpa, hd]; rfl
          have e3 : pT T (i : Int) = ((prs T i).1 : Int) := by unfold Df.pT; rw [e1, if_pos rfl, Int.toNat_natCast]
          have e4 : pN T (i : Int) = nm := by unfold Df.pN; rw [e1, if_pos rfl, Int.toNat_natCast, ho]
          have e5 : pL T (i : Int) = L := by unfold Df.pL; rw [e1, if_pos rfl, Int.toNat_natCast, ho]
          rw [e1, e2, e3, e4, e5]
          refine hgo.mono ?_
          rintro e w' ⟨_, _, q3⟩
          rw [hF, hN] at q3
          exact q3 rfl hd
        | false =>
          have e1 : pE T (i : Int) = 90 := by rw [hch]; exact Df.ch_no hd
          have e2 : pA T (i : Int) = (tk T i).p := by rw [hpa, hd]; rfl
          have e3 : pT T (i : Int) = 0 := by unfold Df.pT; rw [e1]; rfl
          have e4 : pN T (i : Int) = ⟨#[]⟩ := by unfold Df.pN; rw [e1]; rfl
          have e5 : pL T (i : Int) = [] := by unfold Df.pL; rw [e1]; rfl
          rw [e1, e2, e3, e4, e5]
          refine hgo.mono ?_
          rintro e w' ⟨_, q2, _⟩
          rw [hF, hN] at q2
          exact q2 rfl hd
    · have e1 : pE T at' = 2 := by unfold Df.pE; rw [if_neg h80, if_neg hat]
      have e2 : pA T at' = 0 := by unfold Df.pA; rw [if_neg h80, if_neg hat]
      have e3 : pT T at' = 0 := by unfold Df.pT; rw [e1]; rfl
      have e4 : pN T at' = ⟨#[]⟩ := by unfold Df.pN; rw [e1]; rfl
      have e5 : pL T at' = [] := by unfold Df.pL; rw [e1]; rfl
      rw [e1, e2, e3, e4, e5]
      have := dParse_bad T ad cap at' w hT hc hn hz (Or.inr hat)
      rw [if_neg h80] at this
      exact this
end Go.Proofs.YtfobfpigbfepoaaGreatDoor
