/- What the proof is made of, part 25. -/
import Derived.Test.YtfobfpigbfepoaaGreatDoorTLBTexts24
namespace Go.Proofs.YtfobfpigbfepoaaGreatDoor
open Go.RowKit
open _root_.Go.Proofs.YtfobfpigbfepoaaGreatDoor.Act (letB digB sgnB nameB)
open Lex (Tok ckE okT endT szs jz jf jx numB sigB)
set_option maxHeartbeats 8000000 in
set_option maxRecDepth 100000 in
theorem refCheck_any (T : List Tok) (ad : Option Addr) (cap : Nat) (w : World) (hT : ToksAt w ad T) (hn : T.length ≤ 5000) (hz : ∀ x ∈ T, x.t.size ≤ 9223372036854775807) :
    Calls Tryz.prog 46 #[.slice ad T.length cap] w fun e w' => e = .returned (.int .i64 (ckE T)) ∧ Gr w w' := by
  rcases List.eq_nil_or_concat T with rfl | ⟨I, x, rfl⟩
  · rw [Lex.ck_none]
    go_enter Tryz.func46, Tryz.ntmps46
    go_wp2
    go_ret
    exact ⟨rfl, Gr.refl _⟩
  rw [List.concat_eq_append] at *
  have HK : Hid (ckE (I ++ [x]) = if endT x = true then (if I.all okT = true then (if 2000 < jz I then 3 else 0) else 80) else 80) := Lex.ck_snoc I x
  have hlen : (I ++ [x]).length = I.length + 1 := by simp
  rw [hlen] at hn ⊢
  obtain ⟨b, off, rfl, hb, k0, k1, k2⟩ := hT I.length (by rw [hlen]; omega)
  clear k2
  rw [List.getElem_append_right (Nat.le_refl _)] at k0 k1
  simp only [Nat.sub_self, List.getElem_cons_zero] at k0 k1
  have HT : Hid (∀ j (h : j < I.length), w.cell? ⟨b, off + j * 3, none⟩ = some (.int .i64 I[j].k) ∧ w.cell? ⟨b, off + j * 3 + 1, none⟩ = some (.string I[j].t) ∧ w.cell? ⟨b, off + j * 3 + 2, none⟩ = some (.int .i64 I[j].p)) := by
    intro j h
    obtain ⟨b', off', e, _, h1, h2, h3⟩ := hT j (by rw [hlen]; omega)
    cases e
    rw [List.getElem_append_left h] at h1 h2 h3
    exact ⟨h1, h2, h3⟩
  have HZ : Hid (∀ j (h : j < I.length), I[j].t.size ≤ 9223372036854775807) := fun j h => hz _ (by simp)
  have hw1 : wrap64 ((I.length : Int) + 1 - 1) = (I.length : Int) := by unfold wrap64; omega
  have hne0 : (((I.length : Int) + 1) == 0) = false := by rw [beq_eq_false_iff_ne]; omega
  clear hT hz hlen
  by_cases he1 : x.k = 0
  · have e1 : (x.k != 0) = false := by simpa using he1
    have hb0 := text_ne x.t []
    rw [show (⟨[].toArray⟩ : ByteArray) = ⟨#[]⟩ from rfl] at hb0
    by_cases he2 : x.t = ⟨#[]⟩
    · rw [decide_eq_true he2, show (!true) = false from rfl] at hb0
      have hb2 : (x.t.toList == []) = true := by simpa using hb0
      have HK2 : Hid (ckE (I ++ [x]) = if I.all okT = true then (if 2000 < jz I then 3 else 0) else 80) := by
        show _ = _
        rw [HK.out, if_pos]
        unfold Lex.endT
        rw [decide_eq_true he1, decide_eq_true he2]; rfl
      have H1 : Hid (∀ (j : Nat) (h : j < I.length) (w' : World), Calls Tryz.prog 43 #[.string I[j].t] w' fun e w2 => e = .returned (.bool (nameB I[j].t)) ∧ w2 = w') := fun j h w' => refName_any _ w' (HZ.out j h)
      have H2 : Hid (∀ (j : Nat) (h : j < I.length) (w' : World), Calls Tryz.prog 44 #[.string I[j].t] w' fun e w2 => e = .returned (.bool (numB I[j].t)) ∧ w2 = w') := fun j h w' => refNumber_any _ w' (HZ.out j h)
      have H3 : Hid (∀ (j : Nat) (h : j < I.length) (w' : World), Calls Tryz.prog 45 #[.string I[j].t] w' fun e w2 => e = .returned (.bool (sigB I[j].t)) ∧ w2 = w') := fun j h w' => refSign_any _ w'
      clear HK he1 he2
      generalize ckE (I ++ [x]) = CK at *
      go_enter Tryz.func46, Tryz.ntmps46
      go_wp2
      go_loopw [4] (fun i' wr => ∃ i : Nat, i ≤ I.length ∧ i' = .int .i64 (i : Int) ∧ Gr w wr ∧ ∀ j (hj : j < I.length), j < i → okT I[j] = true) (fun i' _ => I.length - (intOf i').toNat)
      case atStart => exact ⟨0, by omega, rfl, Gr.refl _, fun j _ h => absurd h (by omega)⟩
      case round =>
        obtain ⟨i, hi, rfl, hg, ha⟩ := hrel
        have HA : Hid (∀ j (hj : j < I.length), j < i → okT I[j] = true) := ha
        have HG : Hid (Gr w wr) := hg
        clear ha hg
        by_cases hlt : i < I.length
        · obtain ⟨c0, c1, _⟩ := HT.out i hlt
          replace c0 := HG.out.keep c0
          replace c1 := HG.out.keep c1
          have hbw : b < wr.heap.size := Nat.lt_of_lt_of_le hb HG.out.size
          have HB : Hid (okT I[i] = false → CK = 80) := fun h => by rw [HK2.out, Lex.all_nidx I okT i hlt h]; rfl
          have HY : Hid (okT I[i] = true → ∀ j (hj : j < I.length), j < i + 1 → okT I[j] = true) := fun h j hj hji => if e : j = i then by subst e; exact h else HA.out j hj (by omega)
          have HO : Hid (okT I[i] = if I[i].k = 1 then nameB I[i].t else if I[i].k = 2 then numB I[i].t else if I[i].k = 3 then sigB I[i].t else false) := rfl
          have H1i : Hid (∀ (w' : World), Calls Tryz.prog 43 #[.string I[i].t] w' fun e w2 => e = .returned (.bool (nameB I[i].t)) ∧ w2 = w') := H1.out i hlt
          have H2i : Hid (∀ (w' : World), Calls Tryz.prog 44 #[.string I[i].t] w' fun e w2 => e = .returned (.bool (numB I[i].t)) ∧ w2 = w') := H2.out i hlt
          have H3i : Hid (∀ (w' : World), Calls Tryz.prog 45 #[.string I[i].t] w' fun e w2 => e = .returned (.bool (sigB I[i].t)) ∧ w2 = w') := H3.out i hlt
          clear hb0 hb2 e1 k0 k1 H1 H2 H3
          generalize I[i].k = kk at *
          generalize I[i].t = tt at *
          by_cases h1 : kk = 1
          · subst h1
            cases hbv : nameB tt with
            | true =>
              have hv : okT I[i] = true := by rw [HO.out]; simp [hbv]
              have HV : Hid (okT I[i] = true) := hv
              clear hv
              clear HO
              go_wp2
              go_quiet (fail)
              go_wp2_with fail
              refine (H1i.out _).mono ?_
              rintro e w1 ⟨rfl, hw1⟩; obtain rfl := hw1.symm
              rw [hbv]
              go_wp2
              go_roundw
              case rel => exact ⟨i + 1, by omega, by go_num, HG.out.trans ((Gr.refl _).drewN _), HY.out HV.out⟩
              case measure => simp [intOf]; omega
            | false =>
              have hv : okT I[i] = false := by rw [HO.out]; simp [hbv]
              have HV : Hid (okT I[i] = false) := hv
              clear hv
              clear HO
              go_wp2
              go_quiet (fail)
              go_wp2_with fail
              refine (H1i.out _).mono ?_
              rintro e w1 ⟨rfl, hw1⟩; obtain rfl := hw1.symm
              rw [hbv]
              go_wp2
              go_ret
              exact ⟨by rw [HB.out HV.out]; rfl, HG.out.trans ((Gr.refl _).drewN _)⟩
          have e1 : (kk == 1) = false := by simpa using h1
          by_cases h2 : kk = 2
          · subst h2
            cases hbv : numB tt with
            | true =>
              have hv : okT I[i] = true := by rw [HO.out]; simp [hbv]
              have HV : Hid (okT I[i] = true) := hv
              clear hv
              clear HO
              go_wp2
              go_quiet (fail)
              go_wp2_with fail
              refine (H2i.out _).mono ?_
              rintro e w1 ⟨rfl, hw1⟩; obtain rfl := hw1.symm
              rw [hbv]
              go_wp2
              go_roundw
              case rel => exact ⟨i + 1, by omega, by go_num, HG.out.trans ((Gr.refl _).drewN _), HY.out HV.out⟩
              case measure => simp [intOf]; omega
            | false =>
              have hv : okT I[i] = false := by rw [HO.out]; simp [hbv]
              have HV : Hid (okT I[i] = false) := hv
              clear hv
              clear HO
              go_wp2
              go_quiet (fail)
              go_wp2_with fail
              refine (H2i.out _).mono ?_
              rintro e w1 ⟨rfl, hw1⟩; obtain rfl := hw1.symm
              rw [hbv]
              go_wp2
              go_ret
              exact ⟨by rw [HB.out HV.out]; rfl, HG.out.trans ((Gr.refl _).drewN _)⟩
          have e2 : (kk == 2) = false := by simpa using h2
          by_cases h3 : kk = 3
          · subst h3
            cases hbv : sigB tt with
            | true =>
              have hv : okT I[i] = true := by rw [HO.out]; simp [hbv]
              have HV : Hid (okT I[i] = true) := hv
              clear hv
              clear HO
              go_wp2
              go_quiet (fail)
              go_wp2_with fail
              refine (H3i.out _).mono ?_
              rintro e w1 ⟨rfl, hw1⟩; obtain rfl := hw1.symm
              rw [hbv]
              go_wp2
              go_roundw
              case rel => exact ⟨i + 1, by omega, by go_num, HG.out.trans ((Gr.refl _).drewN _), HY.out HV.out⟩
              case measure => simp [intOf]; omega
            | false =>
              have hv : okT I[i] = false := by rw [HO.out]; simp [hbv]
              have HV : Hid (okT I[i] = false) := hv
              clear hv
              clear HO
              go_wp2
              go_quiet (fail)
              go_wp2_with fail
              refine (H3i.out _).mono ?_
              rintro e w1 ⟨rfl, hw1⟩; obtain rfl := hw1.symm
              rw [hbv]
              go_wp2
              go_ret
              exact ⟨by rw [HB.out HV.out]; rfl, HG.out.trans ((Gr.refl _).drewN _)⟩
          have e3 : (kk == 3) = false := by simpa using h3
          have HV : Hid (okT I[i] = false) := by show _ = _; rw [HO.out, if_neg h1, if_neg h2, if_neg h3]
          clear h1 h2 h3
          clear HO
          go_wp2
          go_quiet (fail)
          go_wp2
          go_ret
          exact ⟨by rw [HB.out HV.out]; rfl, HG.out.trans ((Gr.refl _).drewN _)⟩
        · obtain rfl : i = I.length := by omega
          have hall : I.all okT = true := Lex.all_idx I okT (fun j hj => HA.out j hj hj)
          have HE : Hid (CK = if 2000 < jz I then 3 else 0) := by
            show _ = _
            rw [HK2.out, if_pos hall]
          have HS : Hid (∀ j (h : j < I.length), I[j].t.size ≤ 16) := fun j h => (Lex.may_size (List.all_eq_true.1 hall _ (List.getElem_mem h))).2
          have HJ : Hid (∀ j (h : j < I.length), jz (I.take (j + 1)) = jz (I.take j) + (if j = 0 then 0 else 1) + I[j].t.size) := fun j h => Lex.jz_take I j h
          have HL : Hid (∀ j, jz (I.take j) ≤ jz I) := Lex.jz_le I
          have HF : Hid (jz (I.take I.length) = jz I) := by show _ = _; rw [List.take_length]
          have hj0 : jz (I.take 0) = 0 := by simp [Lex.jz, Lex.szs]
          clear hall HA HK2 hb0 hb2 e1 k0 k1 H1 H2 H3
          obtain ⟨wz, hwz⟩ : ∃ x, x = wr := ⟨_, rfl⟩
          subst hwz
          go_wp2
          go_loop [9, 10] (fun z' i' => ∃ i : Nat, i ≤ I.length ∧ i' = .int .i64 (i : Int) ∧ z' = .int .i64 ((jz (I.take i) : Nat) : Int) ∧ jz (I.take i) ≤ 2017) (fun _ i' => I.length - (intOf i').toNat)
          case atStart => exact ⟨0, by omega, rfl, by rw [hj0]; rfl, by omega⟩
          case round =>
            obtain ⟨i, hi, rfl, rfl, h17⟩ := hrel
            by_cases hsm : jz (I.take i) ≤ 2000
            · by_cases hlt : i < I.length
              · obtain ⟨c0, c1, _⟩ := HT.out i hlt
                replace c1 := HG.out.keep c1
                have hbw : b < wz.heap.size := Nat.lt_of_lt_of_le hb HG.out.size
                have h16 := HS.out i hlt
                have hjt := HJ.out i hlt
                have hsmi : ((jz (I.take i) : Nat) : Int) ≤ 2000 := by omega
                clear c0
                by_cases hi0 : i = 0
                · subst hi0
                  rw [if_pos rfl] at hjt
                  rw [Nat.zero_mul, Nat.add_zero] at c1
                  have HJT : Hid (jz (I.take (0 + 1)) = jz (I.take 0) + 0 + I[0].t.size) := hjt
                  clear hjt
                  go_wp2
                  go_round
                  case rel => exact ⟨0 + 1, by omega, by go_num, by first | (rw [HJT.out]; congr 1; done) | (rw [HJT.out]; congr 1; omega), by rw [HJT.out]; omega⟩
                  case measure => simp [intOf]; omega
                · rw [if_neg hi0] at hjt
                  have hgt : (0 : Int) < (i : Int) := by omega
                  have HJT : Hid (jz (I.take (i + 1)) = jz (I.take i) + 1 + I[i].t.size) := hjt
                  have hw2 : wrap64 (((jz (I.take i) : Nat) : Int) + 1) = ((jz (I.take i) : Nat) : Int) + 1 := by unfold wrap64; omega
                  clear hjt
                  go_wp2
                  go_round
                  case rel => exact ⟨i + 1, by omega, by go_num, by first | (rw [HJT.out]; congr 1; done) | (rw [HJT.out]; congr 1; omega), by rw [HJT.out]; omega⟩
                  case measure => simp [intOf]; omega
              · obtain rfl : i = I.length := by omega
                rw [HF.out] at *
                have hbi : ¬ (2000 : Int) < ((jz I : Nat) : Int) := by omega
                rw [if_neg (by omega)] at HE
                go_wp2
                go_ret
                exact ⟨by rw [HE.out]; rfl, HG.out⟩
            · have hbg : 2000 < jz I := by have := HL.out i; omega
              rw [if_pos hbg] at HE
              have hbi : (2000 : Int) < ((jz (I.take i) : Nat) : Int) := by omega
              have hbj : ¬ ((jz (I.take i) : Nat) : Int) ≤ 2000 := by omega
              clear hsm hbg
              generalize jz (I.take i) = zz at *
              by_cases hlt : i < I.length
              · go_wp2
                go_ret
                exact ⟨by rw [HE.out]; rfl, HG.out⟩
              · obtain rfl : i = I.length := by omega
                go_wp2
                go_ret
                exact ⟨by rw [HE.out]; rfl, HG.out⟩
    · have HE : Hid (ckE (I ++ [x]) = 80) := by
        show _ = _
        rw [HK.out, if_neg]
        unfold Lex.endT
        rw [decide_eq_false he2]; simp
      rw [decide_eq_false he2, show (!false) = true from rfl] at hb0
      have hb2 : (x.t.toList == []) = false := by simpa using hb0
      clear HK he2
      generalize ckE (I ++ [x]) = CK at *
      go_enter Tryz.func46, Tryz.ntmps46
      go_wp2
      go_ret
      exact ⟨by rw [HE.out]; rfl, Gr.refl _⟩
  · have HE : Hid (ckE (I ++ [x]) = 80) := by
      show _ = _
      rw [HK.out, if_neg]
      unfold Lex.endT
      rw [decide_eq_false he1]; simp
    have e1 : (x.k != 0) = true := by simpa using he1
    clear HK
    generalize ckE (I ++ [x]) = CK at *
    go_enter Tryz.func46, Tryz.ntmps46
    go_wp2
    go_ret
    exact ⟨by rw [HE.out]; rfl, Gr.refl _⟩
end Go.Proofs.YtfobfpigbfepoaaGreatDoor
