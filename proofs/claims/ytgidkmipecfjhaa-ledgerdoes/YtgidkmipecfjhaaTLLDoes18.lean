/- What the proof is made of, part 18. -/
import Derived.Test.YtgidkmipecfjhaaTLLDoes17
namespace Go.Proofs.Ytgidkmipecfjhaa
open Go.RowKit
open Led (Acc Mk)
theorem hold3m {a b : World} (g : Gr a b) {q0 q1 q2 : Addr} {v0 v1 v2 : Value} (h0 : a.cell? q0 = some v0) (h1 : a.cell? q1 = some v1) (h2 : a.cell? q2 = some v2) :
    Gr a b ∧ b.cell? q0 = some v0 ∧ b.cell? q1 = some v1 ∧ b.cell? q2 = some v2 := ⟨g, g.keep h0, g.keep h1, g.keep h2⟩
theorem hold9m {a b : World} (g : Gr a b) {q0 q1 q2 q3 q4 q5 q6 q7 q8 : Addr} {v0 v1 v2 v3 v4 v5 v6 v7 v8 : Value} (h0 : a.cell? q0 = some v0) (h1 : a.cell? q1 = some v1) (h2 : a.cell? q2 = some v2) (h3 : a.cell? q3 = some v3) (h4 : a.cell? q4 = some v4) (h5 : a.cell? q5 = some v5) (h6 : a.cell? q6 = some v6) (h7 : a.cell? q7 = some v7) (h8 : a.cell? q8 = some v8) :
    Gr a b ∧ b.cell? q0 = some v0 ∧ b.cell? q1 = some v1 ∧ b.cell? q2 = some v2 ∧ b.cell? q3 = some v3 ∧ b.cell? q4 = some v4 ∧ b.cell? q5 = some v5 ∧ b.cell? q6 = some v6 ∧ b.cell? q7 = some v7 ∧ b.cell? q8 = some v8 :=
  ⟨g, g.keep h0, g.keep h1, g.keep h2, g.keep h3, g.keep h4, g.keep h5, g.keep h6, g.keep h7, g.keep h8⟩
theorem hold10m {a b : World} (g : Gr a b) {q0 q1 q2 q3 q4 q5 q6 q7 q8 q9 : Addr} {v0 v1 v2 v3 v4 v5 v6 v7 v8 v9 : Value} (h0 : a.cell? q0 = some v0) (h1 : a.cell? q1 = some v1) (h2 : a.cell? q2 = some v2) (h3 : a.cell? q3 = some v3) (h4 : a.cell? q4 = some v4) (h5 : a.cell? q5 = some v5) (h6 : a.cell? q6 = some v6) (h7 : a.cell? q7 = some v7) (h8 : a.cell? q8 = some v8) (h9 : a.cell? q9 = some v9) :
    Gr a b ∧ b.cell? q0 = some v0 ∧ b.cell? q1 = some v1 ∧ b.cell? q2 = some v2 ∧ b.cell? q3 = some v3 ∧ b.cell? q4 = some v4 ∧ b.cell? q5 = some v5 ∧ b.cell? q6 = some v6 ∧ b.cell? q7 = some v7 ∧ b.cell? q8 = some v8 ∧ b.cell? q9 = some v9 :=
  ⟨g, g.keep h0, g.keep h1, g.keep h2, g.keep h3, g.keep h4, g.keep h5, g.keep h6, g.keep h7, g.keep h8, g.keep h9⟩
theorem may_not_mk {A : List Acc} {M : List Mk} {k : Nat} (h : k < M.length) (hm : Led.mkOk A M[k] = false) : mayL A M = 2 := mayL_no (by
  cases hb : Led.mayB A M with
  | false => rfl
  | true => have := ((Led.may_iff A M).1 hb).om _ (List.getElem_mem h); rw [hm] at this; cases this)
theorem may_not_up {A : List Acc} {M : List Mk} {k : Nat} (h : k + 1 < M.length) (hm : Led.lt M[k].key M[k + 1].key = false) : mayL A M = 2 := mayL_no (by
  cases hb : Led.mayB A M with
  | false => rfl
  | true =>
    have := (Led.up_iff _).1 ((Led.may_iff A M).1 hb).um k (by rw [Led.ky_len]; exact h)
    rw [Led.ky_get M k (by omega), Led.ky_get M (k + 1) h, hm] at this; cases this)
theorem may_not_acc {A : List Acc} {M : List Mk} {k : Nat} (h : k < A.length) (hm : Led.accOk A[k] = false) : mayL A M = 2 := mayL_no (by
  cases hb : Led.mayB A M with
  | false => rfl
  | true => have := ((Led.may_iff A M).1 hb).oa _ (List.getElem_mem h); rw [hm] at this; cases this)
theorem may_not_pot {A : List Acc} {M : List Mk} {k : Nat} (h : k < A.length) (hm : Led.potsB M A[k] = false) : mayL A M = 2 := mayL_no (by
  cases hb : Led.mayB A M with
  | false => rfl
  | true => have := ((Led.may_iff A M).1 hb).po _ (List.getElem_mem h); rw [hm] at this; cases this)
theorem may_not_ua {A : List Acc} {M : List Mk} {k : Nat} (h : k + 1 < A.length) (hm : Led.lt A[k].s A[k + 1].s = false) : mayL A M = 2 := mayL_no (by
  cases hb : Led.mayB A M with
  | false => rfl
  | true =>
    have := (Led.up_iff _).1 ((Led.may_iff A M).1 hb).ua k (by rw [Led.nm_len]; exact h)
    rw [Led.nm_get A k (by omega), Led.nm_get A (k + 1) h, hm] at this; cases this)
theorem may_not_len {A : List Acc} {M : List Mk} (h : 12 < A.length ∨ 500 < M.length) : mayL A M = 2 := mayL_no (by
  cases hb : Led.mayB A M with
  | false => rfl
  | true => have h1 := ((Led.may_iff A M).1 hb).la; have h2 := ((Led.may_iff A M).1 hb).lm; omega)
set_option maxHeartbeats 8000000 in
set_option maxRecDepth 100000 in
theorem refMay7_any (A : List Acc) (M : List Mk) (adA : Option Addr) (capA : Nat) (adM : Option Addr) (capM : Nat) (w : World) (h : LedAt w adA adM A M) :
    Calls Try.prog 15 #[.agg #[.slice adA A.length capA, .slice adM M.length capM]] w fun e w' => e = .returned (.int .i64 (mayL A M)) ∧ Gr w w' := by
  have H1 : Hid (AccsAt w adA A) := h.a
  have H2 : Hid (MksAt w adM M) := h.m
  have HRA : Hid (∀ x ∈ A, inA x) := h.ra
  have HRM : Hid (∀ m ∈ M, inM m) := h.rm
  have hna := h.la
  have hnm := h.lm
  clear h
  by_cases hl1 : (12 : Int) < (A.length : Int)
  · have HV : Hid (mayL A M = 2) := may_not_len (Or.inl (by omega))
    go_enter Try.func15, Try.ntmps15
    go_wp2
    go_ret
    exact ⟨by rw [HV.out]; rfl, (by repeat (first | exact Gr.refl _ | refine Gr.alloc ?_ | refine Gr.drew ?_ | refine Gr.trans ?_ (by assumption)))⟩
  by_cases hl2 : (500 : Int) < (M.length : Int)
  · have HV : Hid (mayL A M = 2) := may_not_len (Or.inr (by omega))
    go_enter Try.func15, Try.ntmps15
    go_wp2
    go_ret
    exact ⟨by rw [HV.out]; rfl, (by repeat (first | exact Gr.refl _ | refine Gr.alloc ?_ | refine Gr.drew ?_ | refine Gr.trans ?_ (by assumption)))⟩
  have HL1 : Hid (A.length ≤ 12) := by show _ ≤ _; omega
  have HL2 : Hid (M.length ≤ 500) := by show _ ≤ _; omega
  go_enter Try.func15, Try.ntmps15
  go_wp2
  clear hl1 hl2
  go_loopw [3] (fun ix wr => ∃ k : Nat, k ≤ M.length ∧ ix = .int .i64 k ∧ (∀ j (h : j < M.length), j < k → Led.mkOk A M[j] = true) ∧ (∀ j (h : j + 1 < M.length), j + 1 < k → Led.lt M[j].key M[j + 1].key = true) ∧ TwoAt wr w.heap.size (.slice adA A.length capA) (.slice adM M.length capM) ∧ Gr w wr)
      (fun ix _ => M.length - (intOf ix).toNat)
  case atStart => exact ⟨0, by omega, rfl, fun j _ hj => absurd hj (by omega), fun j _ hj => absurd hj (by omega), TwoAt.new w _ _ _ _ rfl, (Gr.refl _).alloc⟩
  case round =>
    obtain ⟨k, hk, rfl, hok, hup, hbx, hg⟩ := hrel
    have HB : Hid (TwoAt wr w.heap.size (.slice adA A.length capA) (.slice adM M.length capM)) := hbx
    have HG : Hid (Gr w wr) := hg
    have HK : Hid (∀ j (h : j < M.length), j < k → Led.mkOk A M[j] = true) := hok
    have HU : Hid (∀ j (h : j + 1 < M.length), j + 1 < k → Led.lt M[j].key M[j + 1].key = true) := hup
    obtain ⟨b0, b1, _, _, bl⟩ := hbx
    clear hg hok hup
    by_cases hlt : k < M.length
    · obtain ⟨b, off, rfl, hb, c0, c1, c2, c3, c4⟩ := MksAt.at H2.out k hlt
      have hki : (k : Int) < (M.length : Int) := by omega
      have e0 := HG.out.keep c0
      have e1 := HG.out.keep c1
      have e2 := HG.out.keep c2
      have e3 := HG.out.keep c3
      have e4 := HG.out.keep c4
      have hbw : b < wr.heap.size := Nat.lt_of_lt_of_le hb HG.out.size
      have hin := HRM.out M[k] (List.getElem_mem hlt)
      have hio := Led.mk_iff A M[k]
      have HNK : Hid (Led.mkOk A M[k] = false → mayL A M = 2) := may_not_mk hlt
      have HYK : Hid (Led.mkOk A M[k] = true → ∀ j (h : j < M.length), j < k + 1 → Led.mkOk A M[j] = true) := fun hy j h1 h2 => by
        by_cases e : j = k
        · subst e; exact hy
        · exact HK.out j h1 (by omega)
      have HNU : Hid (∀ (k' : Nat) (h : k' < M.length), k = k' + 1 → Led.lt M[k'].key M[k].key = false → mayL A M = 2) := fun k' h e hl => by subst e; exact may_not_up hlt hl
      have HYU : Hid ((k = 0 ∨ ∃ (k' : Nat) (h : k' < M.length), k = k' + 1 ∧ Led.lt M[k'].key M[k].key = true) → ∀ j (h : j + 1 < M.length), j + 1 < k + 1 → Led.lt M[j].key M[j + 1].key = true) := fun hc j h1 h2 => by
        by_cases e : j + 1 = k
        · rcases hc with h0 | ⟨k', h3, h4, h5⟩
          · omega
          · subst h4
            obtain rfl : j = k' := by omega
            exact h5
        · exact HU.out j h1 (by omega)
      generalize hme : M[k] = m at *
      clear c0 c1 c2 c3 c4 hb hme
      obtain ⟨i1, i2, i3, i4, i5⟩ := hin
      have HKE : Hid (∀ w', Calls Try.prog 43 #[.string m.key] w' fun e w2 => e = .returned (.bool (Led.keyB m.key)) ∧ w2 = w') := fun w' => refKey_any m.key w' i1
      have HCH : Hid (∀ w', Calls Try.prog 44 #[.agg #[.int .i64 m.k, .string m.t, .int .i64 m.n]] w' fun e w2 => e = .returned (.int .i64 (Act.chkE m.k m.t m.n)) ∧ Gr w' w2) := fun w' => refActCheck_any m.k m.n m.t w' i3
      have HAC : Hid (∀ w', Gr w w' → Calls Try.prog 32 #[.agg #[.slice adA A.length capA, .slice (some ⟨b, off, none⟩) M.length capM], .string m.t] w' fun e w2 => e = .returned (.int .i64 (firstI (Led.nm A) m.t)) ∧ Gr w' w2) := fun w' g => refAcc_any A M m.t adA capA _ capM w' (RowAt.gr H1.out g) hna
      cases hk1 : Led.keyB m.key with
      | false =>
        rw [hk1] at HKE
        have HV : Hid (mayL A M = 2) := HNK.out (by unfold Led.mkOk; rw [hk1]; rfl)
        clear hio HNK HYK HNU HYU i1 i2 i3 i4 i5 hk1
        go_wp2_with fail
        refine (HKE.out _).mono ?_
        rintro e w1 ⟨rfl, hw1⟩; obtain rfl := hw1.symm
        go_wp2
        go_ret
        exact ⟨by rw [HV.out]; rfl, HG.out.trans (by repeat (first | exact Gr.refl _ | refine Gr.alloc ?_ | refine Gr.drew ?_ | refine Gr.trans ?_ (by assumption)))⟩
      | true =>
      rw [hk1] at HKE
      cases hk2 : Act.actB m.k m.t m.n with
      | false =>
        have hce : Act.chkE m.k m.t m.n = 60 := by unfold Act.chkE; rw [hk2]; rfl
        rw [hce] at HCH
        have HV : Hid (mayL A M = 2) := HNK.out (by unfold Led.mkOk; rw [hk1, hk2]; rfl)
        clear hio HNK HYK HNU HYU i1 i2 i3 i4 i5 hk1 hk2 hce
        go_wp2_with fail
        refine (HKE.out _).mono ?_
        rintro e w1 ⟨rfl, hw1⟩; obtain rfl := hw1.symm
        go_wp2_with fail
        refine (HCH.out _).mono ?_
        rintro e w2 ⟨rfl, hg2⟩
        go_wp2
        go_ret
        exact ⟨by rw [HV.out]; rfl, HG.out.trans (by repeat (first | exact Gr.refl _ | refine Gr.alloc ?_ | refine Gr.drew ?_ | refine Gr.trans ?_ (by assumption)))⟩
      | true =>
      have hce : Act.chkE m.k m.t m.n = 0 := by unfold Act.chkE; rw [hk2]; rfl
      rw [hce] at HCH
      clear hce
      by_cases hs1 : m.st < 1
      case pos =>
        have hsd : decide (m.st < 1) = true := by simpa using hs1
        have HV : Hid (mayL A M = 2) := HNK.out (by
          cases hb : Led.mkOk A m with
          | false => rfl
          | true => have := hio.1 hb; omega)
        clear hio HNK HYK HNU HYU i1 i2 i3 i4 i5 hk1 hk2
        go_wp2_with fail
        refine (HKE.out _).mono ?_
        rintro e w1 ⟨rfl, hw1⟩; obtain rfl := hw1.symm
        go_wp2_with fail
        refine (HCH.out _).mono ?_
        rintro e w2 ⟨rfl, hg2⟩
        have X := (FiveAt.new wr (.string m.key) (.int .i64 m.k) (.string m.t) (.int .i64 m.n) (.int .i64 m.st) 64 _ rfl).gr hg2
        obtain ⟨x0, x1, x2, x3, x4, _, xl⟩ := X
        have HG2 : Hid (Gr w w2) := HG.out.alloc.trans hg2
        clear hg2
        go_wp2
        go_ret
        exact ⟨by rw [HV.out]; rfl, HG2.out⟩
      by_cases hs2 : 3 < m.st
      case pos =>
        have hsd : decide (3 < m.st) = true := by simpa using hs2
        have hs3 : decide (m.st < 1) = false := by simpa using hs1
        have HV : Hid (mayL A M = 2) := HNK.out (by
          cases hb : Led.mkOk A m with
          | false => rfl
          | true => have := hio.1 hb; omega)
        clear hio HNK HYK HNU HYU i1 i2 i3 i4 i5 hk1 hk2 hs1
        go_wp2_with fail
        refine (HKE.out _).mono ?_
        rintro e w1 ⟨rfl, hw1⟩; obtain rfl := hw1.symm
        go_wp2_with fail
        refine (HCH.out _).mono ?_
        rintro e w2 ⟨rfl, hg2⟩
        have X := (FiveAt.new wr (.string m.key) (.int .i64 m.k) (.string m.t) (.int .i64 m.n) (.int .i64 m.st) 64 _ rfl).gr hg2
        obtain ⟨x0, x1, x2, x3, x4, _, xl⟩ := X
        have HG2 : Hid (Gr w w2) := HG.out.alloc.trans hg2
        clear hg2
        go_wp2
        go_ret
        exact ⟨by rw [HV.out]; rfl, HG2.out⟩
      have hs3 : decide (m.st < 1) = false := by simpa using hs1
      have hs4 : decide (3 < m.st) = false := by simpa using hs2
      cases hk3 : Led.hasB (Led.nm A) m.t with
      | false =>
        rw [first_neg hk3] at HAC
        have HV : Hid (mayL A M = 2) := HNK.out (by unfold Led.mkOk; rw [hk1, hk2, hk3]; rfl)
        clear hio HNK HYK HNU HYU i1 i2 i3 i4 i5 hk1 hk2 hk3
        go_wp2_with fail
        refine (HKE.out _).mono ?_
        rintro e w1 ⟨rfl, hw1⟩; obtain rfl := hw1.symm
        go_wp2_with fail
        refine (HCH.out _).mono ?_
        rintro e w2 ⟨rfl, hg2⟩
        have HX2 : Hid (FiveAt w2 wr.heap.size (.string m.key) (.int .i64 m.k) (.string m.t) (.int .i64 m.n) (.int .i64 m.st)) := (FiveAt.new wr (.string m.key) (.int .i64 m.k) (.string m.t) (.int .i64 m.n) (.int .i64 m.st) 64 _ rfl).gr hg2
        obtain ⟨x0, x1, x2, x3, x4, _, xl⟩ := HX2.out
        have HW2 : Hid (Gr wr w2) := (Gr.refl wr).alloc.trans hg2
        have b0 := HW2.out.keep b0
        have b1 := HW2.out.keep b1
        have hz0 := HW2.out.size
        clear hg2 e0 e1 e2 e3 e4
        go_wp2_with fail
        refine (HAC.out _ (HG.out.trans HW2.out)).mono ?_
        rintro e w4 ⟨rfl, hg4⟩
        have HWR : Hid (Gr wr w4) := HW2.out.trans hg4
        have HG4 : Hid (Gr w w4) := HG.out.trans HWR.out
        have HB4 : Hid (TwoAt w4 w.heap.size (.slice adA A.length capA) (.slice (some ⟨b, off, none⟩) M.length capM)) := HB.out.gr HWR.out
        have HX4 : Hid (FiveAt w4 wr.heap.size (.string m.key) (.int .i64 m.k) (.string m.t) (.int .i64 m.n) (.int .i64 m.st)) := HX2.out.gr hg4
        clear x0 x1 x2 x3 x4 xl b0 b1 bl hg4 hz0
        go_wp2
        go_ret
        exact ⟨by rw [HV.out]; rfl, HG4.out⟩
      | true =>
      have hfi : ¬ firstI (Led.nm A) m.t < 0 := fun h => by have := (first_sign _ _).1 h; rw [hk3] at this; cases this
      generalize firstI (Led.nm A) m.t = fi at *
      have HYY : Hid (Led.mkOk A m = true) := by
        show _ = _
        unfold Led.mkOk; rw [hk1, hk2, hk3, decide_eq_true (by omega : 1 ≤ m.st), decide_eq_true (by omega : m.st ≤ 3)]; rfl
      clear hio HNK hk1 hk2 hk3 hs1 hs2 i1 i2 i3 i4 i5
      by_cases hk0 : k = 0
      · have hz1 : decide ((0 : Int) < (k : Int)) = false := by simp; omega
        have hz2 : decide (0 < k) = false := by simp; omega
        have HYZ := HYU.out (Or.inl hk0)
        have HYV : Hid (∀ j (h : j + 1 < M.length), j + 1 < k + 1 → Led.lt M[j].key M[j + 1].key = true) := HYZ
        clear HYZ HYU HNU hk0
        go_wp2_with fail
        refine (HKE.out _).mono ?_
        rintro e w1 ⟨rfl, hw1⟩; obtain rfl := hw1.symm
        go_wp2_with fail
        refine (HCH.out _).mono ?_
        rintro e w2 ⟨rfl, hg2⟩
        have HX2 : Hid (FiveAt w2 wr.heap.size (.string m.key) (.int .i64 m.k) (.string m.t) (.int .i64 m.n) (.int .i64 m.st)) := (FiveAt.new wr (.string m.key) (.int .i64 m.k) (.string m.t) (.int .i64 m.n) (.int .i64 m.st) 64 _ rfl).gr hg2
        obtain ⟨x0, x1, x2, x3, x4, _, xl⟩ := HX2.out
        have HW2 : Hid (Gr wr w2) := (Gr.refl wr).alloc.trans hg2
        have b0 := HW2.out.keep b0
        have b1 := HW2.out.keep b1
        have hz0 := HW2.out.size
        clear hg2 e0 e1 e2 e3 e4
        go_wp2_with fail
        refine (HAC.out _ (HG.out.trans HW2.out)).mono ?_
        rintro e w4 ⟨rfl, hg4⟩
        have HWR : Hid (Gr wr w4) := HW2.out.trans hg4
        have HG4 : Hid (Gr w w4) := HG.out.trans HWR.out
        have HB4 : Hid (TwoAt w4 w.heap.size (.slice adA A.length capA) (.slice (some ⟨b, off, none⟩) M.length capM)) := HB.out.gr HWR.out
        have HX4 : Hid (FiveAt w4 wr.heap.size (.string m.key) (.int .i64 m.k) (.string m.t) (.int .i64 m.n) (.int .i64 m.st)) := HX2.out.gr hg4
        clear x0 x1 x2 x3 x4 xl b0 b1 bl hg4 hz0
        obtain ⟨x0, x1, x2, x3, x4, _, xl⟩ := HX4.out
        obtain ⟨b0, b1, _, _, bl⟩ := HB4.out
        go_upto_region 9 with fail
        refine wp_region_held_drew (S := (fun w' => Gr w4 w' ∧ w'.cell? ⟨wr.heap.size, 0, none⟩ = some (.string m.key) ∧ w'.cell? ⟨wr.heap.size, 1, none⟩ = some (.int .i64 m.k) ∧ w'.cell? ⟨w.heap.size, 1, none⟩ = some (.slice (some ⟨b, off, none⟩) M.length capM))) (by kernel_rfl) (by exact hold3m (by (with_reducible repeat' (first | exact Gr.refl _ | refine Gr.set ?_ _ ?_ _ | refine Gr.alloc ?_ | refine Gr.drew ?_ | refine Gr.trans ?_ (by assumption))) <;> (first | (simp; done) | (simp; omega) | omega)) x0 x1 b1) (fun hHeld => ?_)
        refine ty 0 57 hHeld ?_
        refine ty 1 58 hHeld ?_
        refine ty 2 59 hHeld ?_
        refine tn 3 60 hHeld ?_
        refine tn 4 61 hHeld ?_
        refine tn 5 62 hHeld ?_
        refine tn 6 63 hHeld ?_
        refine tn 7 64 hHeld ?_
        refine tn 8 65 hHeld ?_
        refine tn 9 66 hHeld ?_
        refine tn 10 67 hHeld ?_
        refine tn 11 68 hHeld ?_
        refine tn 12 69 hHeld ?_
        refine ty 13 70 hHeld ?_
        refine wpAnyH_done (by kernel_rfl) ?_ _
        go_wp2
        go_roundw
        case rel => exact ⟨k + 1, by omega, by go_num, HYK.out HYY.out, HYV.out, HB4.out.gr (by (with_reducible repeat' (first | exact Gr.refl _ | refine Gr.set ?_ _ ?_ _ | refine Gr.alloc ?_ | refine Gr.drew ?_ | refine Gr.trans ?_ (by assumption))) <;> (first | (simp; done) | (simp; omega) | omega)), HG4.out.trans (by (with_reducible repeat' (first | exact Gr.refl _ | refine Gr.set ?_ _ ?_ _ | refine Gr.alloc ?_ | refine Gr.drew ?_ | refine Gr.trans ?_ (by assumption))) <;> (first | (simp; done) | (simp; omega) | omega))⟩
        case measure => simp [intOf]; omega
      · obtain ⟨k', hk'⟩ : ∃ k', k = k' + 1 := ⟨k - 1, by omega⟩
        have hlt' : k' < M.length := by omega
        have hz1 : decide ((0 : Int) < (k : Int)) = true := by simp; omega
        have hz2 : decide (0 < k) = true := by simp; omega
        have hz3 : IntKind.i64.wrap (k' : Int) = (k' : Int) := by rw [IntKind.wrap_i64]; omega
        have hz4 : (k : Int) - 1 = (k' : Int) := by omega
        have hz5 : (k' : Int) < (M.length : Int) := by omega
        obtain ⟨b', off', e', _, c0, _⟩ := (MksAt.at H2.out k' hlt')
        cases e'
        have c0 := HG.out.keep c0
        have HYZ := fun h => HYU.out (Or.inr ⟨k', hlt', hk', h⟩)
        have HNZ := HNU.out k' hlt' hk'
        have hbl : Op.bytesLess M[k'].key.toList m.key.toList = Led.lt M[k'].key m.key := rfl
        generalize M[k'].key = y at c0 HYZ HNZ hbl
        cases hl : Led.lt y m.key with
        | false =>
          rw [hl] at hbl
          have HV : Hid (mayL A M = 2) := HNZ hl
          clear HYZ HYU HNU HNZ hk0 hk' hl
          go_wp2_with fail
          refine (HKE.out _).mono ?_
          rintro e w1 ⟨rfl, hw1⟩; obtain rfl := hw1.symm
          go_wp2_with fail
          refine (HCH.out _).mono ?_
          rintro e w2 ⟨rfl, hg2⟩
          have HX2 : Hid (FiveAt w2 wr.heap.size (.string m.key) (.int .i64 m.k) (.string m.t) (.int .i64 m.n) (.int .i64 m.st)) := (FiveAt.new wr (.string m.key) (.int .i64 m.k) (.string m.t) (.int .i64 m.n) (.int .i64 m.st) 64 _ rfl).gr hg2
          obtain ⟨x0, x1, x2, x3, x4, _, xl⟩ := HX2.out
          have HW2 : Hid (Gr wr w2) := (Gr.refl wr).alloc.trans hg2
          have b0 := HW2.out.keep b0
          have b1 := HW2.out.keep b1
          have hz0 := HW2.out.size
          clear hg2 e0 e1 e2 e3 e4
          go_wp2_with fail
          refine (HAC.out _ (HG.out.trans HW2.out)).mono ?_
          rintro e w4 ⟨rfl, hg4⟩
          have HWR : Hid (Gr wr w4) := HW2.out.trans hg4
          have HG4 : Hid (Gr w w4) := HG.out.trans HWR.out
          have HB4 : Hid (TwoAt w4 w.heap.size (.slice adA A.length capA) (.slice (some ⟨b, off, none⟩) M.length capM)) := HB.out.gr HWR.out
          have HX4 : Hid (FiveAt w4 wr.heap.size (.string m.key) (.int .i64 m.k) (.string m.t) (.int .i64 m.n) (.int .i64 m.st)) := HX2.out.gr hg4
          clear x0 x1 x2 x3 x4 xl b0 b1 bl hg4 hz0
          obtain ⟨x0, x1, x2, x3, x4, _, xl⟩ := HX4.out
          obtain ⟨b0, b1, _, _, bl⟩ := HB4.out
          go_upto_region 9 with fail
          have c0 := HWR.out.keep c0
          refine wp_region_held_drew (S := (fun w' => Gr w4 w' ∧ w'.cell? ⟨wr.heap.size, 0, none⟩ = some (.string m.key) ∧ w'.cell? ⟨b, off + k' * 5, none⟩ = some (.string y) ∧ w'.cell? ⟨w.heap.size, 1, none⟩ = some (.slice (some ⟨b, off, none⟩) M.length capM))) (by kernel_rfl) (by exact hold3m (by (with_reducible repeat' (first | exact Gr.refl _ | refine Gr.set ?_ _ ?_ _ | refine Gr.alloc ?_ | refine Gr.drew ?_ | refine Gr.trans ?_ (by assumption))) <;> (first | (simp; done) | (simp; omega) | omega)) x0 c0 b1) (fun hHeld => ?_)
          refine ty 0 57 hHeld ?_
          refine ty 1 58 hHeld ?_
          refine ty 2 59 hHeld ?_
          refine ty 3 60 hHeld ?_
          refine ty 4 61 hHeld ?_
          refine ty 5 62 hHeld ?_
          refine ty 6 63 hHeld ?_
          refine ty 7 64 hHeld ?_
          refine ty 8 65 hHeld ?_
          refine ty 9 66 hHeld ?_
          refine ty 10 67 hHeld ?_
          refine ty 11 68 hHeld ?_
          refine ty 12 69 hHeld ?_
          refine ty 13 70 hHeld ?_
          refine wpAnyH_done (by kernel_rfl) ?_ _
          go_wp2
          go_ret
          exact ⟨by rw [HV.out]; rfl, HG4.out.trans (by (with_reducible repeat' (first | exact Gr.refl _ | refine Gr.set ?_ _ ?_ _ | refine Gr.alloc ?_ | refine Gr.drew ?_ | refine Gr.trans ?_ (by assumption))) <;> (first | (simp; done) | (simp; omega) | omega))⟩
        | true =>
          rw [hl] at hbl
          have HYV : Hid (∀ j (h : j + 1 < M.length), j + 1 < k + 1 → Led.lt M[j].key M[j + 1].key = true) := HYZ hl
          clear HYZ HYU HNU HNZ hk0 hk' hl
          go_wp2_with fail
          refine (HKE.out _).mono ?_
          rintro e w1 ⟨rfl, hw1⟩; obtain rfl := hw1.symm
          go_wp2_with fail
          refine (HCH.out _).mono ?_
          rintro e w2 ⟨rfl, hg2⟩
          have HX2 : Hid (FiveAt w2 wr.heap.size (.string m.key) (.int .i64 m.k) (.string m.t) (.int .i64 m.n) (.int .i64 m.st)) := (FiveAt.new wr (.string m.key) (.int .i64 m.k) (.string m.t) (.int .i64 m.n) (.int .i64 m.st) 64 _ rfl).gr hg2
          obtain ⟨x0, x1, x2, x3, x4, _, xl⟩ := HX2.out
          have HW2 : Hid (Gr wr w2) := (Gr.refl wr).alloc.trans hg2
          have b0 := HW2.out.keep b0
          have b1 := HW2.out.keep b1
          have hz0 := HW2.out.size
          clear hg2 e0 e1 e2 e3 e4
          go_wp2_with fail
          refine (HAC.out _ (HG.out.trans HW2.out)).mono ?_
          rintro e w4 ⟨rfl, hg4⟩
          have HWR : Hid (Gr wr w4) := HW2.out.trans hg4
          have HG4 : Hid (Gr w w4) := HG.out.trans HWR.out
          have HB4 : Hid (TwoAt w4 w.heap.size (.slice adA A.length capA) (.slice (some ⟨b, off, none⟩) M.length capM)) := HB.out.gr HWR.out
          have HX4 : Hid (FiveAt w4 wr.heap.size (.string m.key) (.int .i64 m.k) (.string m.t) (.int .i64 m.n) (.int .i64 m.st)) := HX2.out.gr hg4
          clear x0 x1 x2 x3 x4 xl b0 b1 bl hg4 hz0
          obtain ⟨x0, x1, x2, x3, x4, _, xl⟩ := HX4.out
          obtain ⟨b0, b1, _, _, bl⟩ := HB4.out
          go_upto_region 9 with fail
          have c0 := HWR.out.keep c0
          refine wp_region_held_drew (S := (fun w' => Gr w4 w' ∧ w'.cell? ⟨wr.heap.size, 0, none⟩ = some (.string m.key) ∧ w'.cell? ⟨b, off + k' * 5, none⟩ = some (.string y) ∧ w'.cell? ⟨w.heap.size, 1, none⟩ = some (.slice (some ⟨b, off, none⟩) M.length capM))) (by kernel_rfl) (by exact hold3m (by (with_reducible repeat' (first | exact Gr.refl _ | refine Gr.set ?_ _ ?_ _ | refine Gr.alloc ?_ | refine Gr.drew ?_ | refine Gr.trans ?_ (by assumption))) <;> (first | (simp; done) | (simp; omega) | omega)) x0 c0 b1) (fun hHeld => ?_)
          refine ty 0 57 hHeld ?_
          refine ty 1 58 hHeld ?_
          refine ty 2 59 hHeld ?_
          refine ty 3 60 hHeld ?_
          refine ty 4 61 hHeld ?_
          refine ty 5 62 hHeld ?_
          refine ty 6 63 hHeld ?_
          refine ty 7 64 hHeld ?_
          refine ty 8 65 hHeld ?_
          refine ty 9 66 hHeld ?_
          refine ty 10 67 hHeld ?_
          refine ty 11 68 hHeld ?_
          refine ty 12 69 hHeld ?_
          refine ty 13 70 hHeld ?_
          refine wpAnyH_done (by kernel_rfl) ?_ _
          go_wp2
          go_roundw
          case rel => exact ⟨k + 1, by omega, by go_num, HYK.out HYY.out, HYV.out, HB4.out.gr (by (with_reducible repeat' (first | exact Gr.refl _ | refine Gr.set ?_ _ ?_ _ | refine Gr.alloc ?_ | refine Gr.drew ?_ | refine Gr.trans ?_ (by assumption))) <;> (first | (simp; done) | (simp; omega) | omega)), HG4.out.trans (by (with_reducible repeat' (first | exact Gr.refl _ | refine Gr.set ?_ _ ?_ _ | refine Gr.alloc ?_ | refine Gr.drew ?_ | refine Gr.trans ?_ (by assumption))) <;> (first | (simp; done) | (simp; omega) | omega))⟩
          case measure => simp [intOf]; omega
    · have hki : ¬ (k : Int) < (M.length : Int) := by omega
      have HMK : Hid (Led.mksB A M = true) := by
        refine (Led.mks_iff A M).2 ⟨HL2.out, ?_, (Led.up_iff _).2 ?_⟩
        · intro x hx
          obtain ⟨j, hj, rfl⟩ := List.getElem_of_mem hx
          exact HK.out j hj (by omega)
        · intro j hj
          rw [Led.ky_len] at hj
          rw [Led.ky_get M j (by omega), Led.ky_get M (j + 1) hj]
          exact HU.out j hj (by omega)
      clear HK HU
      go_wp2
      obtain ⟨wz, rfl⟩ : ∃ x, x = wr := ⟨_, rfl⟩
      clear b0 b1 bl
      go_loopw [5] (fun ix wr => ∃ k : Nat, k ≤ A.length ∧ ix = .int .i64 k ∧ (∀ j (h : j < A.length), j < k → Led.accOk A[j] = true) ∧ (∀ j (h : j + 1 < A.length), j + 1 < k → Led.lt A[j].s A[j + 1].s = true) ∧ (∀ j (h : j < A.length), j < k → Led.potsB M A[j] = true) ∧ TwoAt wr w.heap.size (.slice adA A.length capA) (.slice adM M.length capM) ∧ Gr w wr)
          (fun ix _ => A.length - (intOf ix).toNat)
      case atStart => exact ⟨0, by omega, rfl, fun j _ hj => absurd hj (by omega), fun j _ hj => absurd hj (by omega), fun j _ hj => absurd hj (by omega), HB.out, HG.out⟩
      case round =>
        clear HB HG hki hk
        obtain ⟨k, hk, rfl, hok, hup, hpo, hbx, hg⟩ := hrel
        have HB : Hid (TwoAt wr w.heap.size (.slice adA A.length capA) (.slice adM M.length capM)) := hbx
        have HG : Hid (Gr w wr) := hg
        have HK : Hid (∀ j (h : j < A.length), j < k → Led.accOk A[j] = true) := hok
        have HU : Hid (∀ j (h : j + 1 < A.length), j + 1 < k → Led.lt A[j].s A[j + 1].s = true) := hup
        have HP : Hid (∀ j (h : j < A.length), j < k → Led.potsB M A[j] = true) := hpo
        obtain ⟨b0, b1, _, _, bl⟩ := hbx
        clear hg hok hup hpo
        by_cases hlt : k < A.length
        · obtain ⟨b, off, rfl, hb, c0, c1, c2, c3, c4, c5, c6⟩ := AccsAt.at H1.out k hlt
          have hki : (k : Int) < (A.length : Int) := by omega
          have e0 := HG.out.keep c0
          have e1 := HG.out.keep c1
          have e2 := HG.out.keep c2
          have e3 := HG.out.keep c3
          have e4 := HG.out.keep c4
          have e5 := HG.out.keep c5
          have e6 := HG.out.keep c6
          have hbw : b < wr.heap.size := Nat.lt_of_lt_of_le hb HG.out.size
          have hin := HRA.out A[k] (List.getElem_mem hlt)
          have HNK : Hid (Led.accOk A[k] = false → mayL A M = 2) := may_not_acc hlt
          have HNP : Hid (Led.potsB M A[k] = false → mayL A M = 2) := may_not_pot hlt
          have HYK : Hid (Led.accOk A[k] = true → ∀ j (h : j < A.length), j < k + 1 → Led.accOk A[j] = true) := fun hy j h1 h2 => by
            by_cases e : j = k
            · subst e; exact hy
            · exact HK.out j h1 (by omega)
          have HYP : Hid (Led.potsB M A[k] = true → ∀ j (h : j < A.length), j < k + 1 → Led.potsB M A[j] = true) := fun hy j h1 h2 => by
            by_cases e : j = k
            · subst e; exact hy
            · exact HP.out j h1 (by omega)
          have HNU : Hid (∀ (k' : Nat) (h : k' < A.length), k = k' + 1 → Led.lt A[k'].s A[k].s = false → mayL A M = 2) := fun k' h e hl => by subst e; exact may_not_ua hlt hl
          have HYU : Hid ((k = 0 ∨ ∃ (k' : Nat) (h : k' < A.length), k = k' + 1 ∧ Led.lt A[k'].s A[k].s = true) → ∀ j (h : j + 1 < A.length), j + 1 < k + 1 → Led.lt A[j].s A[j + 1].s = true) := fun hc j h1 h2 => by
            by_cases e : j + 1 = k
            · rcases hc with h0 | ⟨k', h3, h4, h5⟩
              · omega
              · subst h4
                obtain rfl : j = k' := by omega
                exact h5
            · exact HU.out j h1 (by omega)
          generalize hxe : A[k] = x at *
          clear c0 c1 c2 c3 c4 c5 c6 hb hxe HP HU HK
          have HMM : Hid (∀ w', Calls Try.prog 45 #[.agg #[.string x.s, .int .i64 x.a, .int .i64 x.b, .int .i64 x.c, .int .i64 x.x, .int .i64 x.y, .int .i64 x.z]] w' fun e w2 => e = .returned (.int .i64 (Act.mayE x.s x.a x.b x.c x.x x.y x.z)) ∧ Gr w' w2) := fun w' => refMay_any x.s x.a x.b x.c x.x x.y x.z w' hin.1
          have HPP : Hid (∀ w', Gr w w' → Calls Try.prog 46 #[.agg #[.slice (some ⟨b, off, none⟩) A.length capA, .slice adM M.length capM], .agg #[.string x.s, .int .i64 x.a, .int .i64 x.b, .int .i64 x.c, .int .i64 x.x, .int .i64 x.y, .int .i64 x.z]] w' fun e w2 => e = .returned (.bool (Led.potsB M x)) ∧ Gr w' w2) := fun w' g => refPots_any A M x _ capA adM capM w' (RowAt.gr H2.out g) (fun m hm => ((Led.mk_iff A m).1 (((Led.mks_iff A M).1 HMK.out).2.1 m hm)).2.1) HL2.out
          clear hin
          cases hacc : Led.accOk x with
          | false =>
            have HMY : Hid (∀ w', Calls Try.prog 45 #[.agg #[.string x.s, .int .i64 x.a, .int .i64 x.b, .int .i64 x.c, .int .i64 x.x, .int .i64 x.y, .int .i64 x.z]] w' fun e w2 => e = .returned (.int .i64 2) ∧ Gr w' w2) := fun w' => by have := HMM.out w'; rw [Act.may_no hacc] at this; exact this
            have HV : Hid (mayL A M = 2) := HNK.out hacc
            clear HMM HPP HNK HNP HYK HYP HNU HYU hacc
            go_wp2_with fail
            have X := AccAt.new wr (.string x.s) (.int .i64 x.a) (.int .i64 x.b) (.int .i64 x.c) (.int .i64 x.x) (.int .i64 x.y) (.int .i64 x.z) 31 _ rfl
            obtain ⟨x0, x1, x2, x3, x4, x5, x6⟩ := X.cells
            obtain ⟨W, hW⟩ : ∃ W, W = wr.alloc (.cells #[.string x.s, .int .i64 x.a, .int .i64 x.b, .int .i64 x.c, .int .i64 x.x, .int .i64 x.y, .int .i64 x.z] 31) := ⟨_, rfl⟩
            have HWW : Hid (Gr wr W) := by show Gr _ _; rw [hW]; exact (Gr.refl _).alloc
            have HGW : Hid (Gr w W) := HG.out.trans HWW.out
            have HBW : Hid (TwoAt W w.heap.size (.slice (some ⟨b, off, none⟩) A.length capA) (.slice adM M.length capM)) := HB.out.gr HWW.out
            have b0 := HWW.out.keep b0
            have b1 := HWW.out.keep b1
            rw [← hW] at x0 x1 x2 x3 x4 x5 x6 ⊢
            clear X hW e0 e1 e2 e3 e4 e5 e6
            refine wp_region_held_drew (S := (fun w' => Gr W w' ∧ w'.cell? ⟨wr.heap.size, 0, none⟩ = some (.string x.s) ∧ w'.cell? ⟨wr.heap.size, 1, none⟩ = some (.int .i64 x.a) ∧ w'.cell? ⟨wr.heap.size, 2, none⟩ = some (.int .i64 x.b) ∧ w'.cell? ⟨wr.heap.size, 3, none⟩ = some (.int .i64 x.c) ∧ w'.cell? ⟨wr.heap.size, 4, none⟩ = some (.int .i64 x.x) ∧ w'.cell? ⟨wr.heap.size, 5, none⟩ = some (.int .i64 x.y) ∧ w'.cell? ⟨wr.heap.size, 6, none⟩ = some (.int .i64 x.z) ∧ w'.cell? ⟨w.heap.size, 0, none⟩ = some (.slice (some ⟨b, off, none⟩) A.length capA) ∧ w'.cell? ⟨w.heap.size, 1, none⟩ = some (.slice adM M.length capM))) (by kernel_rfl) (by exact hold9m (by (with_reducible repeat' (first | exact Gr.refl _ | refine Gr.set ?_ _ ?_ _ | refine Gr.alloc ?_ | refine Gr.drew ?_ | refine Gr.trans ?_ (by assumption))) <;> (first | (simp; done) | (simp; omega) | omega)) x0 x1 x2 x3 x4 x5 x6 b0 b1) (fun hHeld => ?_)
            refine ty 0 83 hHeld ?_
            refine wpAnyH_ready (rs := [1]) (by kernel_rfl) (by simp) (AllReadyH.cons rfl (fun K hK => ?_) AllReadyH.nil)
            go_simp
            (go_at_call 45; refine (HMY.out _).mono ?_; rintro e wn ⟨rfl, hgn⟩)
            (try go_wp2_with fail)
            refine hK.out _ _ (by exact hold9m (by (with_reducible repeat' (first | exact Gr.refl _ | refine Gr.set ?_ _ ?_ _ | refine Gr.alloc ?_ | refine Gr.drew ?_ | refine Gr.trans ?_ (by assumption))) <;> (first | (simp; done) | (simp; omega) | omega)) x0 x1 x2 x3 x4 x5 x6 b0 b1) (fun hHeldN => ?_)
            clear hHeld hK K
            have hHeld := hHeldN
            clear hHeldN
            refine ty 2 85 hHeld ?_
            refine ty 3 86 hHeld ?_
            refine tn 4 87 hHeld ?_
            refine tn 5 88 hHeld ?_
            refine tn 6 89 hHeld ?_
            refine tn 7 90 hHeld ?_
            refine tn 8 91 hHeld ?_
            refine tn 9 92 hHeld ?_
            refine tn 10 93 hHeld ?_
            refine tn 11 94 hHeld ?_
            refine tn 12 95 hHeld ?_
            refine tn 13 96 hHeld ?_
            refine tn 14 97 hHeld ?_
            refine tn 15 98 hHeld ?_
            refine tn 16 99 hHeld ?_
            refine tn 17 100 hHeld ?_
            refine ty 18 101 hHeld ?_
            refine ty 19 102 hHeld ?_
            refine tn 20 103 hHeld ?_
            refine tn 21 104 hHeld ?_
            refine tn 22 105 hHeld ?_
            refine tn 23 106 hHeld ?_
            refine ty 24 107 hHeld ?_
            refine wpAnyH_done (by kernel_rfl) ?_ _
            go_wp2
            go_ret
            exact ⟨by rw [HV.out]; rfl, HGW.out.trans (by (with_reducible repeat' (first | exact Gr.refl _ | refine Gr.set ?_ _ ?_ _ | refine Gr.alloc ?_ | refine Gr.drew ?_ | refine Gr.trans ?_ (by assumption))) <;> (first | (simp; done) | (simp; omega) | omega))⟩
          | true =>
            have HMY : Hid (∀ w', Calls Try.prog 45 #[.agg #[.string x.s, .int .i64 x.a, .int .i64 x.b, .int .i64 x.c, .int .i64 x.x, .int .i64 x.y, .int .i64 x.z]] w' fun e w2 => e = .returned (.int .i64 0) ∧ Gr w' w2) := fun w' => by have := HMM.out w'; rw [Act.may_yes hacc] at this; exact this
            have HYY : Hid (Led.accOk x = true) := hacc
            clear HMM HNK hacc
            by_cases hk0 : k = 0
            · have hz1 : decide ((0 : Int) < (k : Int)) = false := by simp; omega
              have hz2 : decide (0 < k) = false := by simp; omega
              have HYV : Hid (∀ j (h : j + 1 < A.length), j + 1 < k + 1 → Led.lt A[j].s A[j + 1].s = true) := HYU.out (Or.inl hk0)
              clear HYU HNU hk0
              cases hpb : Led.potsB M x with
              | false =>
                have HPT : Hid (∀ w', Gr w w' → Calls Try.prog 46 #[.agg #[.slice (some ⟨b, off, none⟩) A.length capA, .slice adM M.length capM], .agg #[.string x.s, .int .i64 x.a, .int .i64 x.b, .int .i64 x.c, .int .i64 x.x, .int .i64 x.y, .int .i64 x.z]] w' fun e w2 => e = .returned (.bool false) ∧ Gr w' w2) := fun w' g => by have := HPP.out w' g; rw [hpb] at this; exact this
                have HV : Hid (mayL A M = 2) := HNP.out hpb
                clear HPP HNP hpb
                go_wp2_with fail
                have X := AccAt.new wr (.string x.s) (.int .i64 x.a) (.int .i64 x.b) (.int .i64 x.c) (.int .i64 x.x) (.int .i64 x.y) (.int .i64 x.z) 31 _ rfl
                obtain ⟨x0, x1, x2, x3, x4, x5, x6⟩ := X.cells
                obtain ⟨W, hW⟩ : ∃ W, W = wr.alloc (.cells #[.string x.s, .int .i64 x.a, .int .i64 x.b, .int .i64 x.c, .int .i64 x.x, .int .i64 x.y, .int .i64 x.z] 31) := ⟨_, rfl⟩
                have HWW : Hid (Gr wr W) := by show Gr _ _; rw [hW]; exact (Gr.refl _).alloc
                have HGW : Hid (Gr w W) := HG.out.trans HWW.out
                have HBW : Hid (TwoAt W w.heap.size (.slice (some ⟨b, off, none⟩) A.length capA) (.slice adM M.length capM)) := HB.out.gr HWW.out
                have b0 := HWW.out.keep b0
                have b1 := HWW.out.keep b1
                rw [← hW] at x0 x1 x2 x3 x4 x5 x6 ⊢
                clear X hW e0 e1 e2 e3 e4 e5 e6
                refine wp_region_held_drew (S := (fun w' => Gr W w' ∧ w'.cell? ⟨wr.heap.size, 0, none⟩ = some (.string x.s) ∧ w'.cell? ⟨wr.heap.size, 1, none⟩ = some (.int .i64 x.a) ∧ w'.cell? ⟨wr.heap.size, 2, none⟩ = some (.int .i64 x.b) ∧ w'.cell? ⟨wr.heap.size, 3, none⟩ = some (.int .i64 x.c) ∧ w'.cell? ⟨wr.heap.size, 4, none⟩ = some (.int .i64 x.x) ∧ w'.cell? ⟨wr.heap.size, 5, none⟩ = some (.int .i64 x.y) ∧ w'.cell? ⟨wr.heap.size, 6, none⟩ = some (.int .i64 x.z) ∧ w'.cell? ⟨w.heap.size, 0, none⟩ = some (.slice (some ⟨b, off, none⟩) A.length capA) ∧ w'.cell? ⟨w.heap.size, 1, none⟩ = some (.slice adM M.length capM))) (by kernel_rfl) (by exact hold9m (by (with_reducible repeat' (first | exact Gr.refl _ | refine Gr.set ?_ _ ?_ _ | refine Gr.alloc ?_ | refine Gr.drew ?_ | refine Gr.trans ?_ (by assumption))) <;> (first | (simp; done) | (simp; omega) | omega)) x0 x1 x2 x3 x4 x5 x6 b0 b1) (fun hHeld => ?_)
                refine ty 0 83 hHeld ?_
                refine wpAnyH_ready (rs := [1]) (by kernel_rfl) (by simp) (AllReadyH.cons rfl (fun K hK => ?_) AllReadyH.nil)
                go_simp
                (go_at_call 45; refine (HMY.out _).mono ?_; rintro e wn ⟨rfl, hgn⟩)
                (try go_wp2_with fail)
                refine hK.out _ _ (by exact hold9m (by (with_reducible repeat' (first | exact Gr.refl _ | refine Gr.set ?_ _ ?_ _ | refine Gr.alloc ?_ | refine Gr.drew ?_ | refine Gr.trans ?_ (by assumption))) <;> (first | (simp; done) | (simp; omega) | omega)) x0 x1 x2 x3 x4 x5 x6 b0 b1) (fun hHeldN => ?_)
                clear hHeld hK K
                have hHeld := hHeldN
                clear hHeldN
                refine ty 2 85 hHeld ?_
                refine ty 3 86 hHeld ?_
                refine ty 4 87 hHeld ?_
                refine ty 5 88 hHeld ?_
                refine ty 6 89 hHeld ?_
                refine tn 7 90 hHeld ?_
                refine tn 8 91 hHeld ?_
                refine tn 9 92 hHeld ?_
                refine tn 10 93 hHeld ?_
                refine tn 11 94 hHeld ?_
                refine tn 12 95 hHeld ?_
                refine tn 13 96 hHeld ?_
                refine tn 14 97 hHeld ?_
                refine tn 15 98 hHeld ?_
                refine tn 16 99 hHeld ?_
                refine ty 17 100 hHeld ?_
                refine ty 18 101 hHeld ?_
                refine ty 19 102 hHeld ?_
                refine ty 20 103 hHeld ?_
                refine ty 21 104 hHeld ?_
                refine wpAnyH_ready (rs := [22]) (by kernel_rfl) (by simp) (AllReadyH.cons rfl (fun K hK => ?_) AllReadyH.nil)
                go_simp
                (go_at_call 46; refine (HPT.out _ (HGW.out.trans (by (with_reducible repeat' (first | exact Gr.refl _ | refine Gr.set ?_ _ ?_ _ | refine Gr.alloc ?_ | refine Gr.drew ?_ | refine Gr.trans ?_ (by assumption))) <;> (first | (simp; done) | (simp; omega) | omega)))).mono ?_; rintro e wn2 ⟨rfl, hgn2⟩)
                (try go_wp2_with fail)
                refine hK.out _ _ (by exact hold9m (by (with_reducible repeat' (first | exact Gr.refl _ | refine Gr.set ?_ _ ?_ _ | refine Gr.alloc ?_ | refine Gr.drew ?_ | refine Gr.trans ?_ (by assumption))) <;> (first | (simp; done) | (simp; omega) | omega)) x0 x1 x2 x3 x4 x5 x6 b0 b1) (fun hHeldN => ?_)
                clear hHeld hK K
                have hHeld := hHeldN
                clear hHeldN
                refine ty 23 106 hHeld ?_
                refine ty 24 107 hHeld ?_
                refine wpAnyH_done (by kernel_rfl) ?_ _
                go_wp2
                go_ret
                exact ⟨by rw [HV.out]; rfl, HGW.out.trans (by (with_reducible repeat' (first | exact Gr.refl _ | refine Gr.set ?_ _ ?_ _ | refine Gr.alloc ?_ | refine Gr.drew ?_ | refine Gr.trans ?_ (by assumption))) <;> (first | (simp; done) | (simp; omega) | omega))⟩
              | true =>
                have HPT : Hid (∀ w', Gr w w' → Calls Try.prog 46 #[.agg #[.slice (some ⟨b, off, none⟩) A.length capA, .slice adM M.length capM], .agg #[.string x.s, .int .i64 x.a, .int .i64 x.b, .int .i64 x.c, .int .i64 x.x, .int .i64 x.y, .int .i64 x.z]] w' fun e w2 => e = .returned (.bool true) ∧ Gr w' w2) := fun w' g => by have := HPP.out w' g; rw [hpb] at this; exact this
                have HPY : Hid (Led.potsB M x = true) := hpb
                clear HPP HNP hpb
                go_wp2_with fail
                have X := AccAt.new wr (.string x.s) (.int .i64 x.a) (.int .i64 x.b) (.int .i64 x.c) (.int .i64 x.x) (.int .i64 x.y) (.int .i64 x.z) 31 _ rfl
                obtain ⟨x0, x1, x2, x3, x4, x5, x6⟩ := X.cells
                obtain ⟨W, hW⟩ : ∃ W, W = wr.alloc (.cells #[.string x.s, .int .i64 x.a, .int .i64 x.b, .int .i64 x.c, .int .i64 x.x, .int .i64 x.y, .int .i64 x.z] 31) := ⟨_, rfl⟩
                have HWW : Hid (Gr wr W) := by show Gr _ _; rw [hW]; exact (Gr.refl _).alloc
                have HGW : Hid (Gr w W) := HG.out.trans HWW.out
                have HBW : Hid (TwoAt W w.heap.size (.slice (some ⟨b, off, none⟩) A.length capA) (.slice adM M.length capM)) := HB.out.gr HWW.out
                have b0 := HWW.out.keep b0
                have b1 := HWW.out.keep b1
                rw [← hW] at x0 x1 x2 x3 x4 x5 x6 ⊢
                clear X hW e0 e1 e2 e3 e4 e5 e6
                refine wp_region_held_drew (S := (fun w' => Gr W w' ∧ w'.cell? ⟨wr.heap.size, 0, none⟩ = some (.string x.s) ∧ w'.cell? ⟨wr.heap.size, 1, none⟩ = some (.int .i64 x.a) ∧ w'.cell? ⟨wr.heap.size, 2, none⟩ = some (.int .i64 x.b) ∧ w'.cell? ⟨wr.heap.size, 3, none⟩ = some (.int .i64 x.c) ∧ w'.cell? ⟨wr.heap.size, 4, none⟩ = some (.int .i64 x.x) ∧ w'.cell? ⟨wr.heap.size, 5, none⟩ = some (.int .i64 x.y) ∧ w'.cell? ⟨wr.heap.size, 6, none⟩ = some (.int .i64 x.z) ∧ w'.cell? ⟨w.heap.size, 0, none⟩ = some (.slice (some ⟨b, off, none⟩) A.length capA) ∧ w'.cell? ⟨w.heap.size, 1, none⟩ = some (.slice adM M.length capM))) (by kernel_rfl) (by exact hold9m (by (with_reducible repeat' (first | exact Gr.refl _ | refine Gr.set ?_ _ ?_ _ | refine Gr.alloc ?_ | refine Gr.drew ?_ | refine Gr.trans ?_ (by assumption))) <;> (first | (simp; done) | (simp; omega) | omega)) x0 x1 x2 x3 x4 x5 x6 b0 b1) (fun hHeld => ?_)
                refine ty 0 83 hHeld ?_
                refine wpAnyH_ready (rs := [1]) (by kernel_rfl) (by simp) (AllReadyH.cons rfl (fun K hK => ?_) AllReadyH.nil)
                go_simp
                (go_at_call 45; refine (HMY.out _).mono ?_; rintro e wn ⟨rfl, hgn⟩)
                (try go_wp2_with fail)
                refine hK.out _ _ (by exact hold9m (by (with_reducible repeat' (first | exact Gr.refl _ | refine Gr.set ?_ _ ?_ _ | refine Gr.alloc ?_ | refine Gr.drew ?_ | refine Gr.trans ?_ (by assumption))) <;> (first | (simp; done) | (simp; omega) | omega)) x0 x1 x2 x3 x4 x5 x6 b0 b1) (fun hHeldN => ?_)
                clear hHeld hK K
                have hHeld := hHeldN
                clear hHeldN
                refine ty 2 85 hHeld ?_
                refine ty 3 86 hHeld ?_
                refine ty 4 87 hHeld ?_
                refine ty 5 88 hHeld ?_
                refine ty 6 89 hHeld ?_
                refine tn 7 90 hHeld ?_
                refine tn 8 91 hHeld ?_
                refine tn 9 92 hHeld ?_
                refine tn 10 93 hHeld ?_
                refine tn 11 94 hHeld ?_
                refine tn 12 95 hHeld ?_
                refine tn 13 96 hHeld ?_
                refine tn 14 97 hHeld ?_
                refine tn 15 98 hHeld ?_
                refine tn 16 99 hHeld ?_
                refine ty 17 100 hHeld ?_
                refine ty 18 101 hHeld ?_
                refine ty 19 102 hHeld ?_
                refine ty 20 103 hHeld ?_
                refine ty 21 104 hHeld ?_
                refine wpAnyH_ready (rs := [22]) (by kernel_rfl) (by simp) (AllReadyH.cons rfl (fun K hK => ?_) AllReadyH.nil)
                go_simp
                (go_at_call 46; refine (HPT.out _ (HGW.out.trans (by (with_reducible repeat' (first | exact Gr.refl _ | refine Gr.set ?_ _ ?_ _ | refine Gr.alloc ?_ | refine Gr.drew ?_ | refine Gr.trans ?_ (by assumption))) <;> (first | (simp; done) | (simp; omega) | omega)))).mono ?_; rintro e wn2 ⟨rfl, hgn2⟩)
                (try go_wp2_with fail)
                refine hK.out _ _ (by exact hold9m (by (with_reducible repeat' (first | exact Gr.refl _ | refine Gr.set ?_ _ ?_ _ | refine Gr.alloc ?_ | refine Gr.drew ?_ | refine Gr.trans ?_ (by assumption))) <;> (first | (simp; done) | (simp; omega) | omega)) x0 x1 x2 x3 x4 x5 x6 b0 b1) (fun hHeldN => ?_)
                clear hHeld hK K
                have hHeld := hHeldN
                clear hHeldN
                refine ty 23 106 hHeld ?_
                refine ty 24 107 hHeld ?_
                refine wpAnyH_done (by kernel_rfl) ?_ _
                go_wp2
                go_roundw
                case rel => exact ⟨k + 1, by omega, by go_num, HYK.out HYY.out, HYV.out, HYP.out HPY.out, HBW.out.gr (by (with_reducible repeat' (first | exact Gr.refl _ | refine Gr.set ?_ _ ?_ _ | refine Gr.alloc ?_ | refine Gr.drew ?_ | refine Gr.trans ?_ (by assumption))) <;> (first | (simp; done) | (simp; omega) | omega)), HGW.out.trans (by (with_reducible repeat' (first | exact Gr.refl _ | refine Gr.set ?_ _ ?_ _ | refine Gr.alloc ?_ | refine Gr.drew ?_ | refine Gr.trans ?_ (by assumption))) <;> (first | (simp; done) | (simp; omega) | omega))⟩
                case measure => simp [intOf]; omega
            · obtain ⟨k', hk'⟩ : ∃ k', k = k' + 1 := ⟨k - 1, by omega⟩
              have hlt' : k' < A.length := by omega
              have hz1 : decide ((0 : Int) < (k : Int)) = true := by simp; omega
              have hz2 : decide (0 < k) = true := by simp; omega
              have hz3 : IntKind.i64.wrap (k' : Int) = (k' : Int) := by rw [IntKind.wrap_i64]; omega
              have hz4 : (k : Int) - 1 = (k' : Int) := by omega
              have hz5 : (k' : Int) < (A.length : Int) := by omega
              obtain ⟨b', off', e', _, c0, _⟩ := (AccsAt.at H1.out k' hlt')
              cases e'
              have c0 := HG.out.keep c0
              have HYZ := fun h => HYU.out (Or.inr ⟨k', hlt', hk', h⟩)
              have HNZ := HNU.out k' hlt' hk'
              have hbl : Op.bytesLess A[k'].s.toList x.s.toList = Led.lt A[k'].s x.s := rfl
              generalize A[k'].s = y at c0 HYZ HNZ hbl
              cases hl : Led.lt y x.s with
              | false =>
                rw [hl] at hbl
                have HV : Hid (mayL A M = 2) := HNZ hl
                clear HYZ HYU HNU HNZ hk0 hk' hl HPP
                go_wp2_with fail
                have X := AccAt.new wr (.string x.s) (.int .i64 x.a) (.int .i64 x.b) (.int .i64 x.c) (.int .i64 x.x) (.int .i64 x.y) (.int .i64 x.z) 31 _ rfl
                obtain ⟨x0, x1, x2, x3, x4, x5, x6⟩ := X.cells
                obtain ⟨W, hW⟩ : ∃ W, W = wr.alloc (.cells #[.string x.s, .int .i64 x.a, .int .i64 x.b, .int .i64 x.c, .int .i64 x.x, .int .i64 x.y, .int .i64 x.z] 31) := ⟨_, rfl⟩
                have HWW : Hid (Gr wr W) := by show Gr _ _; rw [hW]; exact (Gr.refl _).alloc
                have HGW : Hid (Gr w W) := HG.out.trans HWW.out
                have HBW : Hid (TwoAt W w.heap.size (.slice (some ⟨b, off, none⟩) A.length capA) (.slice adM M.length capM)) := HB.out.gr HWW.out
                have b0 := HWW.out.keep b0
                have b1 := HWW.out.keep b1
                have c0 := HWW.out.keep c0
                rw [← hW] at x0 x1 x2 x3 x4 x5 x6 ⊢
                clear X hW e0 e1 e2 e3 e4 e5 e6
                refine wp_region_held_drew (S := (fun w' => Gr W w' ∧ w'.cell? ⟨wr.heap.size, 0, none⟩ = some (.string x.s) ∧ w'.cell? ⟨wr.heap.size, 1, none⟩ = some (.int .i64 x.a) ∧ w'.cell? ⟨wr.heap.size, 2, none⟩ = some (.int .i64 x.b) ∧ w'.cell? ⟨wr.heap.size, 3, none⟩ = some (.int .i64 x.c) ∧ w'.cell? ⟨wr.heap.size, 4, none⟩ = some (.int .i64 x.x) ∧ w'.cell? ⟨wr.heap.size, 5, none⟩ = some (.int .i64 x.y) ∧ w'.cell? ⟨wr.heap.size, 6, none⟩ = some (.int .i64 x.z) ∧ w'.cell? ⟨w.heap.size, 0, none⟩ = some (.slice (some ⟨b, off, none⟩) A.length capA) ∧ w'.cell? ⟨w.heap.size, 1, none⟩ = some (.slice adM M.length capM) ∧ w'.cell? ⟨b, off + k' * 7, none⟩ = some (.string y))) (by kernel_rfl) (by exact hold10m (by (with_reducible repeat' (first | exact Gr.refl _ | refine Gr.set ?_ _ ?_ _ | refine Gr.alloc ?_ | refine Gr.drew ?_ | refine Gr.trans ?_ (by assumption))) <;> (first | (simp; done) | (simp; omega) | omega)) x0 x1 x2 x3 x4 x5 x6 b0 b1 c0) (fun hHeld => ?_)
                refine ty 0 83 hHeld ?_
                refine wpAnyH_ready (rs := [1]) (by kernel_rfl) (by simp) (AllReadyH.cons rfl (fun K hK => ?_) AllReadyH.nil)
                go_simp
                (go_at_call 45; refine (HMY.out _).mono ?_; rintro e wn ⟨rfl, hgn⟩)
                (try go_wp2_with fail)
                refine hK.out _ _ (by exact hold10m (by (with_reducible repeat' (first | exact Gr.refl _ | refine Gr.set ?_ _ ?_ _ | refine Gr.alloc ?_ | refine Gr.drew ?_ | refine Gr.trans ?_ (by assumption))) <;> (first | (simp; done) | (simp; omega) | omega)) x0 x1 x2 x3 x4 x5 x6 b0 b1 c0) (fun hHeldN => ?_)
                clear hHeld hK K
                have hHeld := hHeldN
                clear hHeldN
                refine ty 2 85 hHeld ?_
                refine ty 3 86 hHeld ?_
                refine ty 4 87 hHeld ?_
                refine ty 5 88 hHeld ?_
                refine ty 6 89 hHeld ?_
                refine ty 7 90 hHeld ?_
                refine ty 8 91 hHeld ?_
                refine ty 9 92 hHeld ?_
                refine ty 10 93 hHeld ?_
                refine ty 11 94 hHeld ?_
                refine ty 12 95 hHeld ?_
                refine ty 13 96 hHeld ?_
                refine ty 14 97 hHeld ?_
                refine ty 15 98 hHeld ?_
                refine ty 16 99 hHeld ?_
                refine ty 17 100 hHeld ?_
                refine ty 18 101 hHeld ?_
                refine ty 19 102 hHeld ?_
                refine tn 20 103 hHeld ?_
                refine tn 21 104 hHeld ?_
                refine tn 22 105 hHeld ?_
                refine tn 23 106 hHeld ?_
                refine ty 24 107 hHeld ?_
                refine wpAnyH_done (by kernel_rfl) ?_ _
                go_wp2
                go_ret
                exact ⟨by rw [HV.out]; rfl, HGW.out.trans (by (with_reducible repeat' (first | exact Gr.refl _ | refine Gr.set ?_ _ ?_ _ | refine Gr.alloc ?_ | refine Gr.drew ?_ | refine Gr.trans ?_ (by assumption))) <;> (first | (simp; done) | (simp; omega) | omega))⟩
              | true =>
                rw [hl] at hbl
                have HYV : Hid (∀ j (h : j + 1 < A.length), j + 1 < k + 1 → Led.lt A[j].s A[j + 1].s = true) := HYZ hl
                clear HYZ HYU HNU HNZ hk0 hk' hl
                cases hpb : Led.potsB M x with
                | false =>
                  have HPT : Hid (∀ w', Gr w w' → Calls Try.prog 46 #[.agg #[.slice (some ⟨b, off, none⟩) A.length capA, .slice adM M.length capM], .agg #[.string x.s, .int .i64 x.a, .int .i64 x.b, .int .i64 x.c, .int .i64 x.x, .int .i64 x.y, .int .i64 x.z]] w' fun e w2 => e = .returned (.bool false) ∧ Gr w' w2) := fun w' g => by have := HPP.out w' g; rw [hpb] at this; exact this
                  have HV : Hid (mayL A M = 2) := HNP.out hpb
                  clear HPP HNP hpb
                  go_wp2_with fail
                  have X := AccAt.new wr (.string x.s) (.int .i64 x.a) (.int .i64 x.b) (.int .i64 x.c) (.int .i64 x.x) (.int .i64 x.y) (.int .i64 x.z) 31 _ rfl
                  obtain ⟨x0, x1, x2, x3, x4, x5, x6⟩ := X.cells
                  obtain ⟨W, hW⟩ : ∃ W, W = wr.alloc (.cells #[.string x.s, .int .i64 x.a, .int .i64 x.b, .int .i64 x.c, .int .i64 x.x, .int .i64 x.y, .int .i64 x.z] 31) := ⟨_, rfl⟩
                  have HWW : Hid (Gr wr W) := by show Gr _ _; rw [hW]; exact (Gr.refl _).alloc
                  have HGW : Hid (Gr w W) := HG.out.trans HWW.out
                  have HBW : Hid (TwoAt W w.heap.size (.slice (some ⟨b, off, none⟩) A.length capA) (.slice adM M.length capM)) := HB.out.gr HWW.out
                  have b0 := HWW.out.keep b0
                  have b1 := HWW.out.keep b1
                  have c0 := HWW.out.keep c0
                  rw [← hW] at x0 x1 x2 x3 x4 x5 x6 ⊢
                  clear X hW e0 e1 e2 e3 e4 e5 e6
                  refine wp_region_held_drew (S := (fun w' => Gr W w' ∧ w'.cell? ⟨wr.heap.size, 0, none⟩ = some (.string x.s) ∧ w'.cell? ⟨wr.heap.size, 1, none⟩ = some (.int .i64 x.a) ∧ w'.cell? ⟨wr.heap.size, 2, none⟩ = some (.int .i64 x.b) ∧ w'.cell? ⟨wr.heap.size, 3, none⟩ = some (.int .i64 x.c) ∧ w'.cell? ⟨wr.heap.size, 4, none⟩ = some (.int .i64 x.x) ∧ w'.cell? ⟨wr.heap.size, 5, none⟩ = some (.int .i64 x.y) ∧ w'.cell? ⟨wr.heap.size, 6, none⟩ = some (.int .i64 x.z) ∧ w'.cell? ⟨w.heap.size, 0, none⟩ = some (.slice (some ⟨b, off, none⟩) A.length capA) ∧ w'.cell? ⟨w.heap.size, 1, none⟩ = some (.slice adM M.length capM) ∧ w'.cell? ⟨b, off + k' * 7, none⟩ = some (.string y))) (by kernel_rfl) (by exact hold10m (by (with_reducible repeat' (first | exact Gr.refl _ | refine Gr.set ?_ _ ?_ _ | refine Gr.alloc ?_ | refine Gr.drew ?_ | refine Gr.trans ?_ (by assumption))) <;> (first | (simp; done) | (simp; omega) | omega)) x0 x1 x2 x3 x4 x5 x6 b0 b1 c0) (fun hHeld => ?_)
                  refine ty 0 83 hHeld ?_
                  refine wpAnyH_ready (rs := [1]) (by kernel_rfl) (by simp) (AllReadyH.cons rfl (fun K hK => ?_) AllReadyH.nil)
                  go_simp
                  (go_at_call 45; refine (HMY.out _).mono ?_; rintro e wn ⟨rfl, hgn⟩)
                  (try go_wp2_with fail)
                  refine hK.out _ _ (by exact hold10m (by (with_reducible repeat' (first | exact Gr.refl _ | refine Gr.set ?_ _ ?_ _ | refine Gr.alloc ?_ | refine Gr.drew ?_ | refine Gr.trans ?_ (by assumption))) <;> (first | (simp; done) | (simp; omega) | omega)) x0 x1 x2 x3 x4 x5 x6 b0 b1 c0) (fun hHeldN => ?_)
                  clear hHeld hK K
                  have hHeld := hHeldN
                  clear hHeldN
                  refine ty 2 85 hHeld ?_
                  refine ty 3 86 hHeld ?_
                  refine ty 4 87 hHeld ?_
                  refine ty 5 88 hHeld ?_
                  refine ty 6 89 hHeld ?_
                  refine ty 7 90 hHeld ?_
                  refine ty 8 91 hHeld ?_
                  refine ty 9 92 hHeld ?_
                  refine ty 10 93 hHeld ?_
                  refine ty 11 94 hHeld ?_
                  refine ty 12 95 hHeld ?_
                  refine ty 13 96 hHeld ?_
                  refine ty 14 97 hHeld ?_
                  refine ty 15 98 hHeld ?_
                  refine ty 16 99 hHeld ?_
                  refine ty 17 100 hHeld ?_
                  refine ty 18 101 hHeld ?_
                  refine ty 19 102 hHeld ?_
                  refine ty 20 103 hHeld ?_
                  refine ty 21 104 hHeld ?_
                  refine wpAnyH_ready (rs := [22]) (by kernel_rfl) (by simp) (AllReadyH.cons rfl (fun K hK => ?_) AllReadyH.nil)
                  go_simp
                  (go_at_call 46; refine (HPT.out _ (HGW.out.trans (by (with_reducible repeat' (first | exact Gr.refl _ | refine Gr.set ?_ _ ?_ _ | refine Gr.alloc ?_ | refine Gr.drew ?_ | refine Gr.trans ?_ (by assumption))) <;> (first | (simp; done) | (simp; omega) | omega)))).mono ?_; rintro e wn2 ⟨rfl, hgn2⟩)
                  (try go_wp2_with fail)
                  refine hK.out _ _ (by exact hold10m (by (with_reducible repeat' (first | exact Gr.refl _ | refine Gr.set ?_ _ ?_ _ | refine Gr.alloc ?_ | refine Gr.drew ?_ | refine Gr.trans ?_ (by assumption))) <;> (first | (simp; done) | (simp; omega) | omega)) x0 x1 x2 x3 x4 x5 x6 b0 b1 c0) (fun hHeldN => ?_)
                  clear hHeld hK K
                  have hHeld := hHeldN
                  clear hHeldN
                  refine ty 23 106 hHeld ?_
                  refine ty 24 107 hHeld ?_
                  refine wpAnyH_done (by kernel_rfl) ?_ _
                  go_wp2
                  go_ret
                  exact ⟨by rw [HV.out]; rfl, HGW.out.trans (by (with_reducible repeat' (first | exact Gr.refl _ | refine Gr.set ?_ _ ?_ _ | refine Gr.alloc ?_ | refine Gr.drew ?_ | refine Gr.trans ?_ (by assumption))) <;> (first | (simp; done) | (simp; omega) | omega))⟩
                | true =>
                  have HPT : Hid (∀ w', Gr w w' → Calls Try.prog 46 #[.agg #[.slice (some ⟨b, off, none⟩) A.length capA, .slice adM M.length capM], .agg #[.string x.s, .int .i64 x.a, .int .i64 x.b, .int .i64 x.c, .int .i64 x.x, .int .i64 x.y, .int .i64 x.z]] w' fun e w2 => e = .returned (.bool true) ∧ Gr w' w2) := fun w' g => by have := HPP.out w' g; rw [hpb] at this; exact this
                  have HPY : Hid (Led.potsB M x = true) := hpb
                  clear HPP HNP hpb
                  go_wp2_with fail
                  have X := AccAt.new wr (.string x.s) (.int .i64 x.a) (.int .i64 x.b) (.int .i64 x.c) (.int .i64 x.x) (.int .i64 x.y) (.int .i64 x.z) 31 _ rfl
                  obtain ⟨x0, x1, x2, x3, x4, x5, x6⟩ := X.cells
                  obtain ⟨W, hW⟩ : ∃ W, W = wr.alloc (.cells #[.string x.s, .int .i64 x.a, .int .i64 x.b, .int .i64 x.c, .int .i64 x.x, .int .i64 x.y, .int .i64 x.z] 31) := ⟨_, rfl⟩
                  have HWW : Hid (Gr wr W) := by show Gr _ _; rw [hW]; exact (Gr.refl _).alloc
                  have HGW : Hid (Gr w W) := HG.out.trans HWW.out
                  have HBW : Hid (TwoAt W w.heap.size (.slice (some ⟨b, off, none⟩) A.length capA) (.slice adM M.length capM)) := HB.out.gr HWW.out
                  have b0 := HWW.out.keep b0
                  have b1 := HWW.out.keep b1
                  have c0 := HWW.out.keep c0
                  rw [← hW] at x0 x1 x2 x3 x4 x5 x6 ⊢
                  clear X hW e0 e1 e2 e3 e4 e5 e6
                  refine wp_region_held_drew (S := (fun w' => Gr W w' ∧ w'.cell? ⟨wr.heap.size, 0, none⟩ = some (.string x.s) ∧ w'.cell? ⟨wr.heap.size, 1, none⟩ = some (.int .i64 x.a) ∧ w'.cell? ⟨wr.heap.size, 2, none⟩ = some (.int .i64 x.b) ∧ w'.cell? ⟨wr.heap.size, 3, none⟩ = some (.int .i64 x.c) ∧ w'.cell? ⟨wr.heap.size, 4, none⟩ = some (.int .i64 x.x) ∧ w'.cell? ⟨wr.heap.size, 5, none⟩ = some (.int .i64 x.y) ∧ w'.cell? ⟨wr.heap.size, 6, none⟩ = some (.int .i64 x.z) ∧ w'.cell? ⟨w.heap.size, 0, none⟩ = some (.slice (some ⟨b, off, none⟩) A.length capA) ∧ w'.cell? ⟨w.heap.size, 1, none⟩ = some (.slice adM M.length capM) ∧ w'.cell? ⟨b, off + k' * 7, none⟩ = some (.string y))) (by kernel_rfl) (by exact hold10m (by (with_reducible repeat' (first | exact Gr.refl _ | refine Gr.set ?_ _ ?_ _ | refine Gr.alloc ?_ | refine Gr.drew ?_ | refine Gr.trans ?_ (by assumption))) <;> (first | (simp; done) | (simp; omega) | omega)) x0 x1 x2 x3 x4 x5 x6 b0 b1 c0) (fun hHeld => ?_)
                  refine ty 0 83 hHeld ?_
                  refine wpAnyH_ready (rs := [1]) (by kernel_rfl) (by simp) (AllReadyH.cons rfl (fun K hK => ?_) AllReadyH.nil)
                  go_simp
                  (go_at_call 45; refine (HMY.out _).mono ?_; rintro e wn ⟨rfl, hgn⟩)
                  (try go_wp2_with fail)
                  refine hK.out _ _ (by exact hold10m (by (with_reducible repeat' (first | exact Gr.refl _ | refine Gr.set ?_ _ ?_ _ | refine Gr.alloc ?_ | refine Gr.drew ?_ | refine Gr.trans ?_ (by assumption))) <;> (first | (simp; done) | (simp; omega) | omega)) x0 x1 x2 x3 x4 x5 x6 b0 b1 c0) (fun hHeldN => ?_)
                  clear hHeld hK K
                  have hHeld := hHeldN
                  clear hHeldN
                  refine ty 2 85 hHeld ?_
                  refine ty 3 86 hHeld ?_
                  refine ty 4 87 hHeld ?_
                  refine ty 5 88 hHeld ?_
                  refine ty 6 89 hHeld ?_
                  refine ty 7 90 hHeld ?_
                  refine ty 8 91 hHeld ?_
                  refine ty 9 92 hHeld ?_
                  refine ty 10 93 hHeld ?_
                  refine ty 11 94 hHeld ?_
                  refine ty 12 95 hHeld ?_
                  refine ty 13 96 hHeld ?_
                  refine ty 14 97 hHeld ?_
                  refine ty 15 98 hHeld ?_
                  refine ty 16 99 hHeld ?_
                  refine ty 17 100 hHeld ?_
                  refine ty 18 101 hHeld ?_
                  refine ty 19 102 hHeld ?_
                  refine ty 20 103 hHeld ?_
                  refine ty 21 104 hHeld ?_
                  refine wpAnyH_ready (rs := [22]) (by kernel_rfl) (by simp) (AllReadyH.cons rfl (fun K hK => ?_) AllReadyH.nil)
                  go_simp
                  (go_at_call 46; refine (HPT.out _ (HGW.out.trans (by (with_reducible repeat' (first | exact Gr.refl _ | refine Gr.set ?_ _ ?_ _ | refine Gr.alloc ?_ | refine Gr.drew ?_ | refine Gr.trans ?_ (by assumption))) <;> (first | (simp; done) | (simp; omega) | omega)))).mono ?_; rintro e wn2 ⟨rfl, hgn2⟩)
                  (try go_wp2_with fail)
                  refine hK.out _ _ (by exact hold10m (by (with_reducible repeat' (first | exact Gr.refl _ | refine Gr.set ?_ _ ?_ _ | refine Gr.alloc ?_ | refine Gr.drew ?_ | refine Gr.trans ?_ (by assumption))) <;> (first | (simp; done) | (simp; omega) | omega)) x0 x1 x2 x3 x4 x5 x6 b0 b1 c0) (fun hHeldN => ?_)
                  clear hHeld hK K
                  have hHeld := hHeldN
                  clear hHeldN
                  refine ty 23 106 hHeld ?_
                  refine ty 24 107 hHeld ?_
                  refine wpAnyH_done (by kernel_rfl) ?_ _
                  go_wp2
                  go_roundw
                  case rel => exact ⟨k + 1, by omega, by go_num, HYK.out HYY.out, HYV.out, HYP.out HPY.out, HBW.out.gr (by (with_reducible repeat' (first | exact Gr.refl _ | refine Gr.set ?_ _ ?_ _ | refine Gr.alloc ?_ | refine Gr.drew ?_ | refine Gr.trans ?_ (by assumption))) <;> (first | (simp; done) | (simp; omega) | omega)), HGW.out.trans (by (with_reducible repeat' (first | exact Gr.refl _ | refine Gr.set ?_ _ ?_ _ | refine Gr.alloc ?_ | refine Gr.drew ?_ | refine Gr.trans ?_ (by assumption))) <;> (first | (simp; done) | (simp; omega) | omega))⟩
                  case measure => simp [intOf]; omega
        · have hki : ¬ (k : Int) < (A.length : Int) := by omega
          have HV : Hid (mayL A M = 0) := mayL_yes (by
            have h1 : Led.accsB A = true := by
              refine (Led.accs_iff A).2 ⟨HL1.out, ?_, (Led.up_iff _).2 ?_⟩
              · intro x hx
                obtain ⟨j, hj, rfl⟩ := List.getElem_of_mem hx
                exact HK.out j hj (by omega)
              · intro j hj
                rw [Led.nm_len] at hj
                rw [Led.nm_get A j (by omega), Led.nm_get A (j + 1) hj]
                exact HU.out j hj (by omega)
            have h3 : A.all (Led.potsB M) = true := by
              rw [List.all_eq_true]
              intro x hx
              obtain ⟨j, hj, rfl⟩ := List.getElem_of_mem hx
              exact HP.out j hj (by omega)
            unfold Led.mayB
            rw [h1, HMK.out, h3]; rfl)
          go_wp2
          go_ret
          exact ⟨by rw [HV.out]; rfl, HG.out⟩
end Go.Proofs.Ytgidkmipecfjhaa
