
/- Two wheels alike: one that goes on twice, one that goes on at once. -/
import Derived.Test.YtmgiiofjlgchfaaDoorWhZ
import Derived.Test.YtmgiiofjlgchfaaDoorWhY
namespace Go.Proofs.YtmgiiofjlgchfaaDoor
open Go.RowKit
open Wh (Tm Sl ks hasK atK del ins put dig whl Inv tlt Up trn upto past)

theorem upto_two {L : List Tm} (hu : Up L) {x y : Nat} (h : x ≤ y) : upto L x ++ upto (past L x) y = upto L y ∧ past (past L x) y = past L y := by
  constructor
  · have e1 : upto (upto L y) x = upto L x := by
      unfold upto
      rw [List.filter_filter]
      refine List.filter_congr fun z _ => ?_
      by_cases c : z.2 ≤ x
      · have : z.2 ≤ y := by omega
        simp [c, this]
      · simp [c]
    have e2 : past (upto L y) x = upto (past L x) y := by
      unfold upto past
      rw [List.filter_filter, List.filter_filter]
      exact List.filter_congr fun z _ => Bool.and_comm _ _
    have h1 := Wh.upto_past (L := upto L y) (hu.sublist List.filter_sublist) x
    rw [e1, e2] at h1
    exact h1
  · unfold past
    rw [List.filter_filter]
    refine List.filter_congr fun z _ => ?_
    by_cases c : y < z.2
    · have : x < z.2 := by omega
      simp [c, this]
    · simp [c]
theorem sk_plain {t n : Nat} (ht : t ≤ 999000000) (hn : n ≤ 100000) : skE t (n : Int) = t + n ∧ skF (n : Int) = 0 := by
  unfold skE skF
  rw [if_neg (by omega), if_neg (by omega), Int.toNat_natCast]
  exact ⟨by omega, rfl⟩
set_option maxHeartbeats 16000000 in
set_option maxRecDepth 100000 in
theorem skips_main (t x y : Nat) (T : List Ac) (ad : Option Addr) (cap : Nat) (w : World) (hT : Tb w) (hR : RowAt acf w ad T) (h1 : t ≤ 999000000) (h2 : T.length ≤ 100) (hx : x ≤ 40000) (hy : y ≤ 40000)
    (hfew : Calls Tryd.prog 7 #[.slice ad T.length cap] (w.alloc (.cells #[.int .i64 (x : Int), .int .i64 (y : Int)] 62)) fun e w' => e = .returned (.bool true) ∧ w' = w.alloc (.cells #[.int .i64 (x : Int), .int .i64 (y : Int)] 62)) :
    Calls Tryd.prog 6 #[.int .i64 (t : Int), .slice ad T.length cap, .agg #[.int .i64 (x : Int), .int .i64 (y : Int)]] w fun e w' => e = .returned (.bool true) ∧ Gr w w' := by
  have HT : Hid (Tb w) := hT
  have HF := Lib.hid hfew
  have hx0 : ¬ (x : Int) < 0 := by omega
  have hy0 : ¬ (y : Int) < 0 := by omega
  have hx1 : ¬ (40000 : Int) < (x : Int) := by omega
  have hy1 : ¬ (40000 : Int) < (y : Int) := by omega
  have ht0 : ¬ (t : Int) < 0 := by omega
  have ht1 : ¬ (999000000 : Int) < (t : Int) := by omega
  have hl1 : ¬ (100 : Int) < (T.length : Int) := by omega
  have HR : Hid (RowAt acf w ad T) := hR
  obtain ⟨j0, hj0, hz0, hz1, hz2⟩ := info_parts infoTm
  clear hT hfew hR
  go_enter Tryd.func6, Tryd.ntmps6
  go_wp2_with fail
  refine HF.out.mono ?_
  rintro e w' ⟨rfl, rfl⟩
  clear HF
  go_wp2_with fail
  refine (filled_any (t := t) T ad cap _ (by omega) (HR.out.gr (Gr.refl w).alloc) (by omega)).mono ?_
  rintro e w2 ⟨ba, ma, Sa, Va, rfl, hA⟩
  obtain ⟨w1, HW1⟩ : ∃ w1, Hid (w1 = w.alloc (.cells #[.int .i64 (x : Int), .int .i64 (y : Int)] 62)) := ⟨_, rfl⟩
  have hb0 : w1.cell? ⟨w.heap.size, 0, none⟩ = some (.int .i64 (x : Int)) := by rw [HW1.out]; simp
  have hb1 : w1.cell? ⟨w.heap.size, 1, none⟩ = some (.int .i64 (y : Int)) := by rw [HW1.out]; simp
  have HG1 : Hid (Gr w w1) := by show Gr w w1; rw [HW1.out]; exact (Gr.refl _).alloc
  rw [← HW1.out] at hA
  have HB := Lib.hid (And.intro hb0 hb1)
  have HA := Lib.hid hA
  clear hA HW1 hb0 hb1
  go_wp2_with fail
  refine (filled_any (t := t) T ad cap _ (by omega) (HR.out.gr (HG1.out.trans HA.out.gr)) (by omega)).mono ?_
  rintro e w3 ⟨bb, mb, Sb, Vb, rfl, hB⟩
  obtain ⟨L, eL⟩ : ∃ L, L = fillL t T := ⟨_, rfl⟩
  rw [← eL] at HA hB
  clear eL
  have H3 : Hid (Two w1 w3 ba ma t L Sa Va bb mb t L Sb Vb) := by
    refine ⟨HA.out.grow hB.gr, ⟨hB.wa, hB.iv, HA.out.gr.trans hB.gr, fun j hj => Nat.le_trans HA.out.gr.size (hB.low j hj)⟩, fun j hj hc => ?_⟩
    have h5 := HA.out.wa.own_lt hj
    have h6 := hB.low j hc
    omega
  clear hB HA
  go_wp2_with fail
  refine (all_any H3.out.one.wa H3.out.one.iv).mono ?_
  rintro e w4 ⟨v9, rfl, hr9, hg4⟩
  have H4 := Lib.hid (H3.out.grow hg4)
  have h9 : TmR w4 v9 L := own_low hr9 (Nat.zero_le _)
  have o9a : OffW ba ma Va v9 := fun j hj hc => by have h5 := (hr9.lt j hj).1; have h6 := H3.out.one.wa.own_lt hc; omega
  have o9b : OffW bb mb Vb v9 := fun j hj hc => by have h5 := (hr9.lt j hj).1; have h6 := H3.out.two.wa.own_lt hc; omega
  have H9 := Lib.hid (And.intro h9 (And.intro o9a o9b))
  clear hr9 hg4 h9 o9a o9b H3
  have hc0 := H4.out.one.gr.keep HB.out.1
  go_wp2_with fail
  refine (skip_all H4.out.one.wa H4.out.one.iv (x : Int) (H4.out.one.tab (HT.out.gr HG1.out)).1 (H4.out.one.tab (HT.out.gr HG1.out)).2).mono ?_
  rintro e w5 ⟨v10, Sa1, Va1, rfl, k5⟩
  obtain ⟨e1, e2⟩ := sk_plain (n := x) h1 (by omega)
  rw [e1] at k5
  rw [e2]
  obtain ⟨h5, r10, o10a, o10b⟩ := H4.out.sk k5
  have H5 := Lib.hid h5
  obtain ⟨q1, q2, q3⟩ := H9.out.1.off2 k5.tn H9.out.2.1 H9.out.2.2
  have H9' := Lib.hid (And.intro q1 (And.intro q2 q3))
  have H10 := Lib.hid (And.intro r10 (And.intro o10a o10b))
  clear k5 h5 r10 o10a o10b q1 q2 q3 H4 H9 e1 e2 hc0
  have hc1 := H5.out.one.gr.keep HB.out.2
  go_wp2_with fail
  refine (skip_all H5.out.one.wa H5.out.one.iv (y : Int) (H5.out.one.tab (HT.out.gr HG1.out)).1 (H5.out.one.tab (HT.out.gr HG1.out)).2).mono ?_
  rintro e w6 ⟨v12, Sa2, Va2, rfl, k6⟩
  have e1 : skE (t + x) (y : Int) = t + x + y := by unfold skE; rw [if_neg (by omega), Int.toNat_natCast]; omega
  have e2 : skF (y : Int) = 0 := by unfold skF; rw [if_neg (by omega)]
  rw [e1] at k6
  rw [e2]
  obtain ⟨h6, r12, o12a, o12b⟩ := H5.out.sk k6
  have H6 := Lib.hid h6.swap
  obtain ⟨q1, q2, q3⟩ := H9'.out.1.off2 k6.tn H9'.out.2.1 H9'.out.2.2
  have H9 := Lib.hid (And.intro q1 q3)
  obtain ⟨q4, q5, q6⟩ := H10.out.1.off2 k6.tn H10.out.2.1 H10.out.2.2
  have H10' := Lib.hid (And.intro q4 q6)
  have H12 := Lib.hid (And.intro r12 o12b)
  clear k6 h6 r12 o12a o12b q1 q2 q3 q4 q5 q6 H5 H9' H10 e1 e2 hc1
  have hc0 := H6.out.one.gr.keep HB.out.1
  have hc1 := H6.out.one.gr.keep HB.out.2
  obtain ⟨s, es⟩ : ∃ s, s = x + y := ⟨_, rfl⟩
  have hsum : (x : Int) + (y : Int) = (s : Int) := by omega
  have HEs := Lib.hid es
  have hs8 : s ≤ 80000 := by omega
  clear es
  go_wp2_with fail
  refine (skip_all H6.out.one.wa H6.out.one.iv (s : Int) (H6.out.one.tab (HT.out.gr HG1.out)).1 (H6.out.one.tab (HT.out.gr HG1.out)).2).mono ?_
  rintro e w7 ⟨v14, Sb2, Vb2, rfl, k7⟩
  obtain ⟨e1, e2⟩ := sk_plain (n := s) h1 (by omega)
  rw [e1, show t + s = t + x + y by rw [HEs.out]; omega] at k7
  rw [e2]
  obtain ⟨h7, r14, _, _⟩ := H6.out.sk k7
  have H7 := Lib.hid h7.swap
  have R9 := Lib.hid (H9.out.1.tn k7.tn H9.out.2).1
  have R10 := Lib.hid (H10'.out.1.tn k7.tn H10'.out.2).1
  have R12 := Lib.hid (H12.out.1.tn k7.tn H12.out.2).1
  have R14 := Lib.hid r14
  have HUp := Lib.hid H6.out.one.iv.ok
  clear k7 h7 r14 H6 H9 H10' H12 e1 e2 hc0 hc1 hsum
  have HEq : Hid (upto L (t + x) ++ upto (past L (t + x)) (t + x + y) = upto L (t + x + y) ∧ past (past L (t + x)) (t + x + y) = past L (t + x + y)) := upto_two HUp.out.up (by omega)
  have HCD : Hid (upto L (t + x + y) ++ past L (t + x + y) = L) := Wh.upto_past HUp.out.up _
  have hLl : L.length ≤ 200 := HUp.out.few
  rw [HEq.out.2] at H7
  have HAB := Lib.hid HEq.out.1
  clear HEq HUp
  obtain ⟨A, eA⟩ : ∃ A, A = upto L (t + x) := ⟨_, rfl⟩
  obtain ⟨B, eB⟩ : ∃ B, B = upto (past L (t + x)) (t + x + y) := ⟨_, rfl⟩
  obtain ⟨C, eC⟩ : ∃ C, C = upto L (t + x + y) := ⟨_, rfl⟩
  obtain ⟨D, eD⟩ : ∃ D, D = past L (t + x + y) := ⟨_, rfl⟩
  rw [← eA] at R10 HAB
  rw [← eB] at R12 HAB
  rw [← eC] at R14 HAB HCD
  rw [← eD] at H7 HCD
  have hCl : C.length + D.length ≤ 200 := by have := congrArg List.length HCD.out; rw [List.length_append] at this; omega
  have hABl : A.length + B.length = C.length := by have := congrArg List.length HAB.out; rw [List.length_append] at this; exact this
  clear eA eB eC eD
  obtain ⟨a9, c9, rfl, hl9, hm9, row9, hn9⟩ := tm_row R9.out
  obtain ⟨a10, c10, rfl, hl10, hm10, row10, hn10⟩ := tm_row R10.out
  obtain ⟨a12, c12, rfl, hl12, hm12, row12, hn12⟩ := tm_row R12.out
  obtain ⟨a14, c14, rfl, hl14, hm14, row14, hn14⟩ := tm_row R14.out
  have Q9 := Lib.hid row9
  have Q10 := Lib.hid row10
  have Q12 := Lib.hid row12
  have Q14 := Lib.hid row14
  have HO0 : Hid (World.ownsRow (w7.alloc (.cells #[] 61)) w7.heap.size 61 2 (.slice (some ⟨w7.heap.size, 0, none⟩) 0 0) 0 []) := own_lit0 w7 w7.heap.size 61 _ rfl (Nat.le_refl _)
  have tok1 : True := trivial
  have HN10 := Lib.hid hn10
  have HN12 := Lib.hid hn12
  clear R9 R10 R12 R14 row9 row10 row12 row14 hn9 hn10 hn12 hn14
  go_wp2_with (first
    | (at_builtin; have _t := tok1; refine wpList_append_row rfl _ _ 36 rfl w7.heap.size 61 j0 (.agg #[.string ⟨#[]⟩, .int .i64 0]) 2 24 Tryd.underlying36 hj0 hz0 hz1 hz2 rfl (by decide) _ _ _ rfl HO0.out tmf_len A a10 c10 rfl HN10.out (Q10.out.gr (Gr.refl w7).alloc) (tmf_flat_one A) (by unfold maxLen; omega) (by omega) (by simp) ?_; intro v1 w8 ho8 hg8 hl8
       have HO8 := Lib.hid ho8
       have HG8 : Hid (Gr w7 w8) := (Gr.refl w7).alloc.grown hg8 (fun j hj => (HO0.out.lt j hj).1)
       clear ho8 hg8 hl8 tok1)
    | (at_builtin; refine wpList_append_row rfl _ _ 36 rfl w7.heap.size 61 j0 (.agg #[.string ⟨#[]⟩, .int .i64 0]) 2 24 Tryd.underlying36 hj0 hz0 hz1 hz2 rfl (by decide) _ _ _ rfl HO8.out tmf_len B a12 c12 rfl HN12.out (Q12.out.gr HG8.out) (tmf_flat_one B) (by unfold maxLen; omega) (by omega) (HG8.out.size) ?_; intro v2 w9 ho9 hg9 hl9
       have HG9 : Hid (Gr w7 w9) := HG8.out.grown hg9 (fun j hj => (HO8.out.lt j hj).1)
       have hT9 : TmR w9 v2 C := by
         show World.ownsRow w9 _ _ _ _ _ _
         rw [← HAB.out, List.flatMap_append, List.length_append]
         rw [Nat.zero_add, List.nil_append] at ho9
         exact own_low ho9 (Nat.zero_le _)
       obtain ⟨a16, c16, rfl, hl16, hm16, row16, hn16⟩ := tm_row hT9
       have Q16 := Lib.hid row16
       clear ho9 hg9 hl9 HO8 hT9 row16 hn16)
    | fail)
  refine (same_eq C a16 a14 c16 c14 w9 Q16.out (Q14.out.gr HG9.out) (by omega)).mono ?_
  rintro e w10 ⟨rfl, hg10⟩
  have HG10 := Lib.hid (HG9.out.trans hg10)
  have H10 := Lib.hid (H7.out.grow HG10.out)
  have Q16b := Lib.hid (Q16.out.gr hg10)
  clear hg10 HG9 Q16 Q14 H7 HG8 Q10 Q12 HO0
  go_wp2_with fail
  refine (all_any H10.out.one.wa H10.out.one.iv).mono ?_
  rintro e w11 ⟨va, rfl, hra, hg11⟩
  have H11 := Lib.hid (H10.out.grow hg11)
  have HG11 := Lib.hid (HG10.out.trans hg11)
  have Q16c := Lib.hid (Q16b.out.gr hg11)
  have hta : TmR w11 va D := own_low hra (Nat.zero_le _)
  have HTa := Lib.hid hta
  clear hg11 hra hta H10 HG10 Q16b
  go_wp2_with fail
  refine (all_any H11.out.two.wa H11.out.two.iv).mono ?_
  rintro e w12 ⟨vb, rfl, hrb, hg12⟩
  have H12 := Lib.hid (H11.out.grow hg12)
  have HG12 := Lib.hid (HG11.out.trans hg12)
  have Q16d := Lib.hid (Q16c.out.gr hg12)
  have htb : TmR w12 vb D := own_low hrb (Nat.zero_le _)
  obtain ⟨aa, ca, rfl, hla, hma, rowa, _⟩ := tm_row (HTa.out.gr hg12)
  obtain ⟨ab, cb, rfl, hlb, hmb, rowb, _⟩ := tm_row htb
  have HSm := Lib.hid (same_eq D aa ab ca cb w12 rowa rowb (by omega))
  clear hg12 hrb htb H11 HG11 Q16c rowa rowb HTa
  go_wp2_with fail
  refine HSm.out.mono ?_
  rintro e w13 ⟨rfl, hg13⟩
  have H13 := Lib.hid (H12.out.grow hg13)
  have HG13 := Lib.hid (HG12.out.trans hg13)
  have Q16e := Lib.hid (Q16d.out.gr hg13)
  clear hg13 HSm H12 HG12 Q16d
  go_wp2_with fail
  refine (now_any H13.out.one.wa).mono ?_
  rintro e w' ⟨rfl, hw⟩
  obtain rfl := hw.symm
  clear hw
  go_wp2_with fail
  refine (now_any H13.out.two.wa).mono ?_
  rintro e w' ⟨rfl, hw⟩
  obtain rfl := hw.symm
  clear hw
  have hlen : L.length = C.length + D.length := by have := congrArg List.length HCD.out; rw [List.length_append] at this; exact this.symm
  have hS1 := slice_low a9 L.length c9 C.length (by omega) hl9
  have hS2 : ∀ W, (Instr.sliceAt 36 (.slice a9 L.length c9) (some (.int .i64 C.length)) none none).run Tryd.prog W = .ok (.slice (highAd a9 c9 C.length) D.length (c9 - C.length)) W := fun W => by
    rw [slice_high a9 L.length c9 C.length (by omega) W, show L.length - C.length = D.length by omega]
  have hge1 : decide ((C.length : Int) ≤ (L.length : Int)) = true := decide_eq_true (by omega)
  have hge2 : decide (C.length ≤ L.length) = true := decide_eq_true (by omega)
  have HC9 : Hid (RowAt tmf w13 a9 C ∧ RowAt tmf w13 (highAd a9 c9 C.length) D) := by
    have h5 := row_take tmf_len (Q9.out.gr HG13.out) C.length (by omega)
    have h6 := row_high (Q9.out.gr HG13.out) c9 C.length hl9
    have e5 : L.take C.length = C := by rw [← HCD.out]; simp
    have e6 : L.drop C.length = D := by rw [← HCD.out]; simp
    rw [e5] at h5
    rw [e6] at h6
    exact ⟨h5, h6⟩
  have HS1 : Hid (∀ W, Gr w13 W → Calls Tryd.prog 16 #[.slice a9 C.length c9, .slice a16 C.length c16] W fun e w' => e = .returned (.bool true) ∧ Gr W w') := fun W g => same_eq C a9 a16 c9 c16 W (HC9.out.1.gr g) (Q16e.out.gr g) (by omega)
  have HAl : Hid (∀ W, Gr w13 W → Calls Tryd.prog 24 #[ptr ba] W fun e w' => ∃ x y, e = .returned (.slice x D.length y) ∧ RowAt tmf w' x D ∧ Gr W w') := fun W g => by
    have h5 := H13.out.one.grow g
    refine (all_any h5.wa h5.iv).mono ?_
    rintro e w' ⟨v, rfl, q1, q2⟩
    obtain ⟨x, y, rfl, _, _, q3, _⟩ := tm_row (own_low q1 (Nat.zero_le _))
    exact ⟨x, y, rfl, q3, q2⟩
  have HS2 : Hid (∀ W x y, Gr w13 W → RowAt tmf W x D → Calls Tryd.prog 16 #[.slice (highAd a9 c9 C.length) D.length (c9 - C.length), .slice x D.length y] W fun e w' => e = .returned (.bool true) ∧ Gr W w') := fun W x y g r => same_eq D _ x _ y W (HC9.out.2.gr g) r (by omega)
  have HAw : Hid (∀ W, Gr w13 W → Calls Tryd.prog 8 #[] W fun e w' => e = .returned (.bool true) ∧ Gr W w') := fun W g => awake_any W (HT.out.gr ((HG1.out.trans H13.out.one.gr).trans g))
  have HG : Hid (Gr w w13) := HG1.out.trans H13.out.one.gr
  clear HC9 Q9 H13 HG13 Q16e HCD HAB HB HR HN10 HN12 HG1 HT hlen hCl hABl hl9 hl10 hl12 hl14 hl16 hla hlb hm9 hm10 hm12 hm14 hm16 hma hmb hLl
  generalize highAd a9 c9 C.length = ah at *
  generalize c9 - C.length = ch at *
  go_upto_region 13 with fail
  refine wp_region_held_drew (S := (fun w' => Gr w13 w')) (by kernel_rfl) (by first | with_reducible exact hHeld | with_reducible exact (Gr.refl _).drew | with_reducible exact hHeld.trans hg14 | with_reducible exact hHeld.trans hg15 | with_reducible exact hHeld.trans hg16 | with_reducible exact hHeld.trans hg17) (fun hHeld => ?_)
  refine take_yes 0 128 (v := ?_) rfl rfl (by kernel_rfl) (by kernel_rfl) (by kernel_rfl) (fun _ _ _ h => h) (by rfl) ?_ hHeld ?_
  rotate_left
  · (intro w hSw; (try dsimp only at hSw); go_simp; try with_reducible rfl)
  simp only [Act.put, List.setIfInBounds_toArray, List.set_cons_zero, List.set_cons_succ]
  refine take_yes 1 129 (v := ?_) rfl rfl (by kernel_rfl) (by kernel_rfl) (by kernel_rfl) (fun _ _ _ h => h) (by rfl) ?_ hHeld ?_
  rotate_left
  · (intro w hSw; (try dsimp only at hSw); go_simp; try with_reducible rfl)
  simp only [Act.put, List.setIfInBounds_toArray, List.set_cons_zero, List.set_cons_succ]
  refine take_yes 2 130 (v := ?_) rfl rfl (by kernel_rfl) (by kernel_rfl) (by kernel_rfl) (fun _ _ _ h => h) (by rfl) ?_ hHeld ?_
  rotate_left
  · (intro w hSw; (try dsimp only at hSw); go_simp; try with_reducible rfl)
  simp only [Act.put, List.setIfInBounds_toArray, List.set_cons_zero, List.set_cons_succ]
  refine take_yes 3 131 (v := ?_) rfl rfl (by kernel_rfl) (by kernel_rfl) (by kernel_rfl) (fun _ _ _ h => h) (by rfl) ?_ hHeld ?_
  rotate_left
  · (intro w hSw; (try dsimp only at hSw); go_simp; try with_reducible rfl)
  simp only [Act.put, List.setIfInBounds_toArray, List.set_cons_zero, List.set_cons_succ]
  refine take_yes 4 132 (v := (.bool true)) rfl rfl (by kernel_rfl) (by kernel_rfl) (by kernel_rfl) (fun _ _ _ h => h) (by rfl) (by (intro w hSw; go_simp; try exact hge2; try exact hge1)) hHeld ?_
  simp only [Act.put, List.setIfInBounds_toArray, List.set_cons_zero, List.set_cons_succ]
  refine take_yes 5 133 (v := ?_) rfl rfl (by kernel_rfl) (by kernel_rfl) (by kernel_rfl) (fun _ _ _ h => h) (by rfl) ?_ hHeld ?_
  rotate_left
  · (intro w hSw; (try dsimp only at hSw); go_simp; try with_reducible rfl)
  simp only [Act.put, List.setIfInBounds_toArray, List.set_cons_zero, List.set_cons_succ]
  refine take_yes 6 134 (v := ?_) rfl rfl (by kernel_rfl) (by kernel_rfl) (by kernel_rfl) (fun _ _ _ h => h) (by rfl) ?_ hHeld ?_
  rotate_left
  · (intro w hSw; (try dsimp only at hSw); go_simp; try with_reducible rfl)
  simp only [Act.put, List.setIfInBounds_toArray, List.set_cons_zero, List.set_cons_succ]
  refine take_yes 7 135 (v := ?_) rfl rfl (by kernel_rfl) (by kernel_rfl) (by kernel_rfl) (fun _ _ _ h => h) (by rfl) ?_ hHeld ?_
  rotate_left
  · (intro w hSw; (try dsimp only at hSw); go_simp; try with_reducible rfl)
  simp only [Act.put, List.setIfInBounds_toArray, List.set_cons_zero, List.set_cons_succ]
  refine take_yes 8 136 (v := ?_) rfl rfl (by kernel_rfl) (by kernel_rfl) (by kernel_rfl) (fun _ _ _ h => h) (by rfl) ?_ hHeld ?_
  rotate_left
  · (intro w hSw; (try dsimp only at hSw); go_simp; try with_reducible rfl)
  simp only [Act.put, List.setIfInBounds_toArray, List.set_cons_zero, List.set_cons_succ]
  refine take_yes 9 137 (v := ?_) rfl rfl (by kernel_rfl) (by kernel_rfl) (by kernel_rfl) (fun _ _ _ h => h) (by rfl) ?_ hHeld ?_
  rotate_left
  · (intro w hSw; (try dsimp only at hSw); go_simp; try with_reducible rfl)
  simp only [Act.put, List.setIfInBounds_toArray, List.set_cons_zero, List.set_cons_succ]
  refine take_yes 10 138 (v := ?_) rfl rfl (by kernel_rfl) (by kernel_rfl) (by kernel_rfl) (fun _ _ _ h => h) (by rfl) ?_ hHeld ?_
  rotate_left
  · (intro w hSw; (try dsimp only at hSw); go_simp; try with_reducible rfl)
  simp only [Act.put, List.setIfInBounds_toArray, List.set_cons_zero, List.set_cons_succ]
  refine wpAnyH_ready (rs := [11]) (by kernel_rfl) (by simp) (AllReadyH.cons rfl (fun K hK => ?_) AllReadyH.nil)
  go_simp
  (go_at_call 16; refine (HS1.out _ hHeld).mono ?_; rintro e w14 ⟨rfl, hg14⟩)
  (try go_wp2_with fail)
  refine hK.out _ _ (by first | with_reducible exact hHeld | with_reducible exact (Gr.refl _).drew | with_reducible exact hHeld.trans hg14 | with_reducible exact hHeld.trans hg15 | with_reducible exact hHeld.trans hg16 | with_reducible exact hHeld.trans hg17) (fun hHeldN => ?_)
  clear hHeld hK K
  have hHeld := hHeldN
  clear hHeldN
  refine take_yes 12 140 (v := ?_) rfl rfl (by kernel_rfl) (by kernel_rfl) (by kernel_rfl) (fun _ _ _ h => h) (by rfl) ?_ hHeld ?_
  rotate_left
  · (intro w hSw; (try dsimp only at hSw); go_simp; try with_reducible rfl)
  simp only [Act.put, List.setIfInBounds_toArray, List.set_cons_zero, List.set_cons_succ]
  refine take_yes 13 141 (v := ?_) rfl rfl (by kernel_rfl) (by kernel_rfl) (by kernel_rfl) (fun _ _ _ h => h) (by rfl) ?_ hHeld ?_
  rotate_left
  · (intro w hSw; (try dsimp only at hSw); go_simp; try with_reducible rfl)
  simp only [Act.put, List.setIfInBounds_toArray, List.set_cons_zero, List.set_cons_succ]
  refine take_yes 14 142 (v := ?_) rfl rfl (by kernel_rfl) (by kernel_rfl) (by kernel_rfl) (fun _ _ _ h => h) (by rfl) ?_ hHeld ?_
  rotate_left
  · (intro w hSw; (try dsimp only at hSw); go_simp; try with_reducible rfl)
  simp only [Act.put, List.setIfInBounds_toArray, List.set_cons_zero, List.set_cons_succ]
  refine take_yes 15 143 (v := ?_) rfl rfl (by kernel_rfl) (by kernel_rfl) (by kernel_rfl) (fun _ _ _ h => h) (by rfl) ?_ hHeld ?_
  rotate_left
  · (intro w hSw; (try dsimp only at hSw); go_simp; try with_reducible rfl)
  simp only [Act.put, List.setIfInBounds_toArray, List.set_cons_zero, List.set_cons_succ]
  refine take_yes 16 144 (v := ?_) rfl rfl (by kernel_rfl) (by kernel_rfl) (by kernel_rfl) (fun _ _ _ h => h) (by rfl) ?_ hHeld ?_
  rotate_left
  · (intro w hSw; (try dsimp only at hSw); go_simp; try with_reducible rfl)
  simp only [Act.put, List.setIfInBounds_toArray, List.set_cons_zero, List.set_cons_succ]
  refine take_yes 17 145 (v := ?_) rfl rfl (by kernel_rfl) (by kernel_rfl) (by kernel_rfl) (fun _ _ _ h => h) (by rfl) ?_ hHeld ?_
  rotate_left
  · (intro w hSw; (try dsimp only at hSw); go_simp; try with_reducible rfl)
  simp only [Act.put, List.setIfInBounds_toArray, List.set_cons_zero, List.set_cons_succ]
  refine take_yes 18 146 (v := ?_) rfl rfl (by kernel_rfl) (by kernel_rfl) (by kernel_rfl) (fun _ _ _ h => h) (by rfl) ?_ hHeld ?_
  rotate_left
  · (intro w hSw; (try dsimp only at hSw); go_simp; try with_reducible rfl)
  simp only [Act.put, List.setIfInBounds_toArray, List.set_cons_zero, List.set_cons_succ]
  refine wpAnyH_ready (rs := [19]) (by kernel_rfl) (by simp) (AllReadyH.cons rfl (fun K hK => ?_) AllReadyH.nil)
  go_simp
  (go_at_call 24; refine (HAl.out _ hHeld).mono ?_; rintro e w15 ⟨x15, y15, rfl, hr15, hg15⟩)
  (try go_wp2_with fail)
  refine hK.out _ _ (by first | with_reducible exact hHeld | with_reducible exact (Gr.refl _).drew | with_reducible exact hHeld.trans hg14 | with_reducible exact hHeld.trans hg15 | with_reducible exact hHeld.trans hg16 | with_reducible exact hHeld.trans hg17) (fun hHeldN => ?_)
  clear hHeld hK K
  have hHeld := hHeldN
  clear hHeldN
  refine wpAnyH_ready (rs := [20]) (by kernel_rfl) (by simp) (AllReadyH.cons rfl (fun K hK => ?_) AllReadyH.nil)
  go_simp
  (go_at_call 16; refine (HS2.out _ _ _ hHeld hr15).mono ?_; rintro e w16 ⟨rfl, hg16⟩)
  (try go_wp2_with fail)
  refine hK.out _ _ (by first | with_reducible exact hHeld | with_reducible exact (Gr.refl _).drew | with_reducible exact hHeld.trans hg14 | with_reducible exact hHeld.trans hg15 | with_reducible exact hHeld.trans hg16 | with_reducible exact hHeld.trans hg17) (fun hHeldN => ?_)
  clear hHeld hK K
  have hHeld := hHeldN
  clear hHeldN
  refine take_yes 21 149 (v := ?_) rfl rfl (by kernel_rfl) (by kernel_rfl) (by kernel_rfl) (fun _ _ _ h => h) (by rfl) ?_ hHeld ?_
  rotate_left
  · (intro w hSw; (try dsimp only at hSw); go_simp; try with_reducible rfl)
  simp only [Act.put, List.setIfInBounds_toArray, List.set_cons_zero, List.set_cons_succ]
  refine take_yes 22 150 (v := ?_) rfl rfl (by kernel_rfl) (by kernel_rfl) (by kernel_rfl) (fun _ _ _ h => h) (by rfl) ?_ hHeld ?_
  rotate_left
  · (intro w hSw; (try dsimp only at hSw); go_simp; try with_reducible rfl)
  simp only [Act.put, List.setIfInBounds_toArray, List.set_cons_zero, List.set_cons_succ]
  refine wpAnyH_ready (rs := [23]) (by kernel_rfl) (by simp) (AllReadyH.cons rfl (fun K hK => ?_) AllReadyH.nil)
  go_simp
  (go_at_call 8; refine (HAw.out _ hHeld).mono ?_; rintro e w17 ⟨rfl, hg17⟩)
  (try go_wp2_with fail)
  refine hK.out _ _ (by first | with_reducible exact hHeld | with_reducible exact (Gr.refl _).drew | with_reducible exact hHeld.trans hg14 | with_reducible exact hHeld.trans hg15 | with_reducible exact hHeld.trans hg16 | with_reducible exact hHeld.trans hg17) (fun hHeldN => ?_)
  clear hHeld hK K
  have hHeld := hHeldN
  clear hHeldN
  refine take_yes 24 152 (v := ?_) rfl rfl (by kernel_rfl) (by kernel_rfl) (by kernel_rfl) (fun _ _ _ h => h) (by rfl) ?_ hHeld ?_
  rotate_left
  · (intro w hSw; (try dsimp only at hSw); go_simp; try with_reducible rfl)
  simp only [Act.put, List.setIfInBounds_toArray, List.set_cons_zero, List.set_cons_succ]
  refine take_yes 25 6 (v := ?_) rfl rfl (by kernel_rfl) (by kernel_rfl) (by kernel_rfl) (fun _ _ _ h => h) (by rfl) ?_ hHeld ?_
  rotate_left
  · (intro w hSw; (try dsimp only at hSw); go_simp; try with_reducible rfl)
  simp only [Act.put, List.setIfInBounds_toArray, List.set_cons_zero, List.set_cons_succ]
  refine wpAnyH_done (by kernel_rfl) ?_ _
  have HF := Lib.hid (HG.out.trans hHeld)
  clear hHeld hg14 hg15 hg16 hg17 hr15
  go_wp2
  go_ret
  exact ⟨rfl, HF.out⟩
end Go.Proofs.YtmgiiofjlgchfaaDoor
