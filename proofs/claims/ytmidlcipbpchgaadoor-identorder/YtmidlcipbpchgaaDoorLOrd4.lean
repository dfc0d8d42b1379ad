/- The law IdentOrder, where the ids have few hops. -/
import Derived.Test.YtmidlcipbpchgaaDoorLOrd3
import Derived.Deep.DeepCutAuto
namespace Go.Proofs.YtmidlcipbpchgaaDoor
open Go.RowKit

theorem parent_ex (r n : Int) (L : List (Int × Int)) (ad : Option Addr) (cap : Nat) (w : World) (hL : HopsAt w ad L) (hn : L.length ≤ 900) (hc : L.length ≤ cap) :
    ∃ (rp np sp : Int) (Lp : List (Int × Int)) (ok : Bool), Lp.length ≤ 900 ∧
      (∀ w', Gr w w' → Calls Tryd.prog 18 #[.agg #[.int .i64 r, .int .i64 n, .slice ad L.length cap]] w' fun e w2 => ∃ ad2 cap2, e = .returned (.tuple #[.agg #[.int .i64 rp, .int .i64 np, .slice ad2 Lp.length cap2], .int .i64 sp, .bool ok]) ∧ HopsAt w2 ad2 Lp ∧ Gr w' w2) ∧
      (ok = true → rp = r ∧ np = n ∧ ∃ h, L = Lp ++ [h]) := by
  by_cases h : Idn.mayB r n L = false ∨ L = []
  · refine ⟨0, 0, 0, [], false, by simp, fun w' g => (parent_no r n L ad cap w' (hL.gr g) (by omega) h).mono ?_, fun e => by cases e⟩
    rintro e w2 ⟨rfl, hg⟩; exact ⟨none, 0, rfl, HopsAt.nil, hg⟩
  · rw [not_or] at h
    have hm : Idn.mayB r n L = true := by simpa using h.1
    have h4 := may_len hm
    obtain ⟨M, ⟨s, o⟩, rfl⟩ : ∃ M x, L = M ++ [x] := ⟨L.dropLast, L.getLast h.2, (List.dropLast_concat_getLast h.2).symm⟩
    rw [List.length_append] at h4 hc ⊢
    simp at h4
    obtain ⟨b, off, rfl, _⟩ := hL 0 (by simp)
    refine ⟨r, n, s, M, true, by omega, fun w' g => (parent_yes r n s o M b off cap w' (hL.gr g) hc hm (by omega)).mono ?_, fun _ => ⟨rfl, rfl, _, rfl⟩⟩
    rintro e w2 ⟨a, c, rfl, _, hh, hg⟩; exact ⟨a, c, rfl, hh, hg⟩

set_option maxHeartbeats 20000000 in
set_option maxRecDepth 100000 in
theorem identOrder_few (r1 n1 : Int) (L1 : List (Int × Int)) (ad1 : Option Addr) (cap1 : Nat) (r2 n2 : Int) (L2 : List (Int × Int)) (ad2 : Option Addr) (cap2 : Nat) (r3 n3 : Int) (L3 : List (Int × Int)) (ad3 : Option Addr) (cap3 : Nat)
    (w : World) (he : Env w) (hf' : fewB [L1.length, L2.length, L3.length] = true) (hL1 : HopsAt w ad1 L1) (hL2 : HopsAt w ad2 L2) (hL3 : HopsAt w ad3 L3) (hc1 : L1.length ≤ cap1) :
    Calls Tryd.prog 8 #[.agg #[.int .i64 r1, .int .i64 n1, .slice ad1 L1.length cap1], .agg #[.int .i64 r2, .int .i64 n2, .slice ad2 L2.length cap2], .agg #[.int .i64 r3, .int .i64 n3, .slice ad3 L3.length cap3]] w fun e w' => e = .returned (.bool true) ∧ Gr w w' := by
  have hl : L1.length ≤ 200 ∧ L2.length ≤ 200 ∧ L3.length ≤ 200 := by simpa [fewB] using hf'
  have HA : Hid (∀ w', Gr w w' → Calls Tryd.prog 16 #[] w' fun e w2 => e = .returned (.bool true) ∧ Gr w' w2) := fun w' g => awake_any w' (he.gr g)
  have HF : Hid (∀ (w' : World) (g : Nat), LensAt w' (some ⟨g, 0, none⟩) [L1.length, L2.length, L3.length] → Calls Tryd.prog 17 #[.slice (some ⟨g, 0, none⟩) 3 3] w' fun e w2 => e = .returned (.bool (fewB [L1.length, L2.length, L3.length])) ∧ w2 = w') := fun w' g h => few_any [L1.length, L2.length, L3.length] _ 3 w' h (by simp) (by simp; omega)
  rw [hf'] at HF
  obtain ⟨rp, np, sp, Lp, ok, hlp, hpar, hok⟩ := parent_ex r1 n1 L1 ad1 cap1 w hL1 (by omega) hc1
  have HP : Hid (∀ w', Gr w w' → Calls Tryd.prog 18 #[.agg #[.int .i64 r1, .int .i64 n1, .slice ad1 L1.length cap1]] w' fun e w2 => ∃ ad2 cap2, e = .returned (.tuple #[.agg #[.int .i64 rp, .int .i64 np, .slice ad2 Lp.length cap2], .int .i64 sp, .bool ok]) ∧ HopsAt w2 ad2 Lp ∧ Gr w' w2) := hpar
  have C12 : Hid (∀ w', Gr w w' → Calls Tryd.prog 23 #[.agg #[.int .i64 r1, .int .i64 n1, .slice ad1 L1.length cap1], .agg #[.int .i64 r2, .int .i64 n2, .slice ad2 L2.length cap2]] w' fun e w2 => e = .returned (.int .i64 (Idn.cmpE r1 n1 L1 r2 n2 L2)) ∧ Gr w' w2) := fun w' g => cmp_any r1 n1 L1 ad1 cap1 r2 n2 L2 ad2 cap2 w' (hL1.gr g) (hL2.gr g) (by omega) (by omega)
  have C23 : Hid (∀ w', Gr w w' → Calls Tryd.prog 23 #[.agg #[.int .i64 r2, .int .i64 n2, .slice ad2 L2.length cap2], .agg #[.int .i64 r3, .int .i64 n3, .slice ad3 L3.length cap3]] w' fun e w2 => e = .returned (.int .i64 (Idn.cmpE r2 n2 L2 r3 n3 L3)) ∧ Gr w' w2) := fun w' g => cmp_any r2 n2 L2 ad2 cap2 r3 n3 L3 ad3 cap3 w' (hL2.gr g) (hL3.gr g) (by omega) (by omega)
  have C13 : Hid (∀ w', Gr w w' → Calls Tryd.prog 23 #[.agg #[.int .i64 r1, .int .i64 n1, .slice ad1 L1.length cap1], .agg #[.int .i64 r3, .int .i64 n3, .slice ad3 L3.length cap3]] w' fun e w2 => e = .returned (.int .i64 (Idn.cmpE r1 n1 L1 r3 n3 L3)) ∧ Gr w' w2) := fun w' g => cmp_any r1 n1 L1 ad1 cap1 r3 n3 L3 ad3 cap3 w' (hL1.gr g) (hL3.gr g) (by omega) (by omega)
  have C21 : Hid (∀ w', Gr w w' → Calls Tryd.prog 23 #[.agg #[.int .i64 r2, .int .i64 n2, .slice ad2 L2.length cap2], .agg #[.int .i64 r1, .int .i64 n1, .slice ad1 L1.length cap1]] w' fun e w2 => e = .returned (.int .i64 (-Idn.cmpE r1 n1 L1 r2 n2 L2)) ∧ Gr w' w2) := by
    intro w' g
    have := cmp_any r2 n2 L2 ad2 cap2 r1 n1 L1 ad1 cap1 w' (hL2.gr g) (hL1.gr g) (by omega) (by omega)
    rw [Idn.cmpE_neg r1 n1 L1 r2 n2 L2] at this
    exact this
  have C11 : Hid (∀ w', Gr w w' → Calls Tryd.prog 23 #[.agg #[.int .i64 r1, .int .i64 n1, .slice ad1 L1.length cap1], .agg #[.int .i64 r1, .int .i64 n1, .slice ad1 L1.length cap1]] w' fun e w2 => e = .returned (.int .i64 0) ∧ Gr w' w2) := by
    intro w' g
    have := cmp_any r1 n1 L1 ad1 cap1 r1 n1 L1 ad1 cap1 w' (hL1.gr g) (hL1.gr g) (by omega) (by omega)
    rw [Idn.cmpE_self] at this
    exact this
  have HSM : Hid (∀ w', Gr w w' → Calls Tryd.prog 22 #[.agg #[.int .i64 r1, .int .i64 n1, .slice ad1 L1.length cap1], .agg #[.int .i64 r2, .int .i64 n2, .slice ad2 L2.length cap2]] w' fun e w2 => e = .returned (.bool (Idn.cmpE r1 n1 L1 r2 n2 L2 == 0)) ∧ Gr w' w2) := by
    intro w' g
    have := same_any r1 n1 L1 ad1 cap1 r2 n2 L2 ad2 cap2 w' (hL1.gr g) (hL2.gr g) (by omega) (by omega)
    rw [show sameB r1 n1 L1 r2 n2 L2 = (Idn.cmpE r1 n1 L1 r2 n2 L2 == 0) by
      unfold sameB
      have h := Idn.cmpE_zero r1 n1 L1 r2 n2 L2
      by_cases e : r1 = r2 ∧ n1 = n2 ∧ L1 = L2
      · rw [decide_eq_true e, h.2 e]; rfl
      · rw [decide_eq_false e]
        exact (beq_eq_false_iff_ne.2 (fun x => e (h.1 x))).symm] at this
    exact this
  have HCP : Hid (ok = true → ∀ (w' : World) (a : Option Addr) (c : Nat), Gr w w' → HopsAt w' a Lp → Calls Tryd.prog 23 #[.agg #[.int .i64 rp, .int .i64 np, .slice a Lp.length c], .agg #[.int .i64 r1, .int .i64 n1, .slice ad1 L1.length cap1]] w' fun e w2 => e = .returned (.int .i64 (-1)) ∧ Gr w' w2) := by
    intro k w' a c g h
    have := cmp_any rp np Lp a c r1 n1 L1 ad1 cap1 w' h (hL1.gr g) (by omega) (by omega)
    obtain ⟨rfl, rfl, x, e⟩ := hok k
    rw [show Idn.cmpE rp np Lp rp np L1 = -1 by rw [e, Idn.cmpE_snoc]] at this
    exact this
  have HU1 : Hid (ok = true → ∀ (w' : World) (g : Nat) (a : Option Addr) (c : Nat), Gr w w' → TopsAt w' (some ⟨g, 0, none⟩) [⟨rp, np, Lp, a, c⟩] → Calls Tryd.prog 25 #[.agg #[.int .i64 r1, .int .i64 n1, .slice ad1 L1.length cap1], .slice (some ⟨g, 0, none⟩) 1 1] w' fun e w2 => e = .returned (.bool true) ∧ Gr w' w2) := by
    intro k w' g a c gg h
    have := under_any r1 n1 L1 ad1 cap1 [⟨rp, np, Lp, a, c⟩] _ 1 w' (hL1.gr gg) h (by omega) (by simp)
    obtain ⟨rfl, rfl, x, e⟩ := hok k
    rw [show underB rp np L1 [⟨rp, np, Lp, a, c⟩] = true by rw [e, under_yes]] at this
    exact this
  have HU2 : Hid (ok = true → ∀ (w' : World) (g : Nat) (a : Option Addr) (c : Nat), HopsAt w' a Lp → TopsAt w' (some ⟨g, 0, none⟩) [⟨r1, n1, L1, ad1, cap1⟩] → Calls Tryd.prog 25 #[.agg #[.int .i64 rp, .int .i64 np, .slice a Lp.length c], .slice (some ⟨g, 0, none⟩) 1 1] w' fun e w2 => e = .returned (.bool false) ∧ Gr w' w2) := by
    intro k w' g a c h ht
    have := under_any rp np Lp a c [⟨r1, n1, L1, ad1, cap1⟩] _ 1 w' h ht (by omega) (by simp)
    obtain ⟨rfl, rfl, x, e⟩ := hok k
    rw [show underB rp np Lp [⟨rp, np, L1, ad1, cap1⟩] = false by rw [e, under_no]] at this
    exact this
  have hx := Idn.cmpE_rng r1 n1 L1 r2 n2 L2
  have hch := Idn.cmpE_chain r1 n1 L1 r2 n2 L2 r3 n3 L3
  have HL1 : Hid (HopsAt w ad1 L1) := hL1
  have HL1n : Hid (L1.length ≤ 9223372036854775807 ∧ Lp.length ≤ 9223372036854775807) := ⟨by omega, by omega⟩
  generalize Idn.cmpE r1 n1 L1 r2 n2 L2 = x at *
  generalize Idn.cmpE r2 n2 L2 r3 n3 L3 = y at *
  generalize Idn.cmpE r1 n1 L1 r3 n3 L3 = z at *
  clear he hf' hL1 hL2 hL3 hpar hok hc1 hl hlp
  go_enter Tryd.func8, Tryd.ntmps8
  go_wp2_with fail
  refine (HF.out _ _ (lens_lit3 _ _ _ _ _ _ _ _ _ _ _ _ _ _ _ _ _ _ (by simp))).mono ?_
  rintro e1 w1 ⟨rfl, hw1⟩
  have G1 : Hid (Gr w w1) := by rw [hw1]; exact (by repeat (first | exact Gr.refl _ | refine Gr.alloc ?_ | refine Gr.drew ?_ | refine Gr.trans ?_ (by assumption)))
  have B1 : BoxAt w1 w.heap.size (.int .i64 r1) (.int .i64 n1) (.slice ad1 L1.length cap1) := by
    rw [hw1]; exact (BoxAt.new w _ _ _ _ _ rfl).gr (by repeat (first | exact Gr.refl _ | refine Gr.alloc ?_ | refine Gr.drew ?_ | refine Gr.trans ?_ (by assumption)))
  have B2 : BoxAt w1 (w.heap.size + 1) (.int .i64 r2) (.int .i64 n2) (.slice ad2 L2.length cap2) := by
    rw [hw1]; exact (BoxAt.new (w.alloc _) _ _ _ _ _ (by simp)).gr (by repeat (first | exact Gr.refl _ | refine Gr.alloc ?_ | refine Gr.drew ?_ | refine Gr.trans ?_ (by assumption)))
  have B3 : BoxAt w1 (w.heap.size + 1 + 1) (.int .i64 r3) (.int .i64 n3) (.slice ad3 L3.length cap3) := by
    rw [hw1]; exact (BoxAt.new ((w.alloc _).alloc _) _ _ _ _ _ (by simp)).gr (by repeat (first | exact Gr.refl _ | refine Gr.alloc ?_ | refine Gr.drew ?_ | refine Gr.trans ?_ (by assumption)))
  clear hw1
  have G1' := G1.out
  have B1h : Hid (BoxAt w1 w.heap.size (.int .i64 r1) (.int .i64 n1) (.slice ad1 L1.length cap1)) := B1
  have B2h : Hid (BoxAt w1 (w.heap.size + 1) (.int .i64 r2) (.int .i64 n2) (.slice ad2 L2.length cap2)) := B2
  obtain ⟨a0, a1, a2, _, _, _, alt⟩ := id B1
  obtain ⟨b0, b1, b2, _, _, _, blt⟩ := id B2
  obtain ⟨c0, c1, c2, _, _, _, clt⟩ := id B3
  clear B1 B2 B3 HF
  go_upto_region 3 with fail
  go_cut [7, 8, 9] (fun s7 s8 s9 wx => s7 = .int .i64 x ∧ s8 = .int .i64 y ∧ s9 = .int .i64 z ∧ Gr w1 wx)
  case first =>
    go_region_held3 (fun w' => Gr w w' ∧ Gr w1 w' ∧ w'.cell? ⟨w.heap.size, 0, none⟩ = some (.int .i64 r1) ∧ w'.cell? ⟨w.heap.size, 1, none⟩ = some (.int .i64 n1) ∧ w'.cell? ⟨w.heap.size, 2, none⟩ = some (.slice ad1 L1.length cap1) ∧ w'.cell? ⟨w.heap.size + 1, 0, none⟩ = some (.int .i64 r2) ∧ w'.cell? ⟨w.heap.size + 1, 1, none⟩ = some (.int .i64 n2) ∧ w'.cell? ⟨w.heap.size + 1, 2, none⟩ = some (.slice ad2 L2.length cap2) ∧ w'.cell? ⟨w.heap.size + 1 + 1, 0, none⟩ = some (.int .i64 r3) ∧ w'.cell? ⟨w.heap.size + 1 + 1, 1, none⟩ = some (.int .i64 n3) ∧ w'.cell? ⟨w.heap.size + 1 + 1, 2, none⟩ = some (.slice ad3 L3.length cap3))
      ((go_split_ands; exact ⟨(by repeat (first | exact Gr.refl _ | refine Gr.alloc ?_ | refine Gr.drew ?_ | refine Gr.trans ?_ (by assumption))), (by repeat (first | exact Gr.refl _ | refine Gr.alloc ?_ | refine Gr.drew ?_ | refine Gr.trans ?_ (by assumption))), Gr.keep (W := w1) (by repeat (first | exact Gr.refl _ | refine Gr.alloc ?_ | refine Gr.drew ?_ | refine Gr.trans ?_ (by assumption))) a0, Gr.keep (W := w1) (by repeat (first | exact Gr.refl _ | refine Gr.alloc ?_ | refine Gr.drew ?_ | refine Gr.trans ?_ (by assumption))) a1, Gr.keep (W := w1) (by repeat (first | exact Gr.refl _ | refine Gr.alloc ?_ | refine Gr.drew ?_ | refine Gr.trans ?_ (by assumption))) a2, Gr.keep (W := w1) (by repeat (first | exact Gr.refl _ | refine Gr.alloc ?_ | refine Gr.drew ?_ | refine Gr.trans ?_ (by assumption))) b0, Gr.keep (W := w1) (by repeat (first | exact Gr.refl _ | refine Gr.alloc ?_ | refine Gr.drew ?_ | refine Gr.trans ?_ (by assumption))) b1, Gr.keep (W := w1) (by repeat (first | exact Gr.refl _ | refine Gr.alloc ?_ | refine Gr.drew ?_ | refine Gr.trans ?_ (by assumption))) b2, Gr.keep (W := w1) (by repeat (first | exact Gr.refl _ | refine Gr.alloc ?_ | refine Gr.drew ?_ | refine Gr.trans ?_ (by assumption))) c0, Gr.keep (W := w1) (by repeat (first | exact Gr.refl _ | refine Gr.alloc ?_ | refine Gr.drew ?_ | refine Gr.trans ?_ (by assumption))) c1, Gr.keep (W := w1) (by repeat (first | exact Gr.refl _ | refine Gr.alloc ?_ | refine Gr.drew ?_ | refine Gr.trans ?_ (by assumption))) c2⟩))
      ((first
        | (go_at_call_of 23 (Value.int IntKind.i64 r1); go_at_call_of 23 (Value.int IntKind.i64 r2); refine (C12.out _ ?_).mono ?_; (go_split_ands; exact (by repeat (first | exact Gr.refl _ | refine Gr.alloc ?_ | refine Gr.drew ?_ | refine Gr.trans ?_ (by assumption)))); rintro e w2 ⟨rfl, hg2⟩)
        | (go_at_call_of 23 (Value.int IntKind.i64 r2); go_at_call_of 23 (Value.int IntKind.i64 r3); refine (C23.out _ ?_).mono ?_; (go_split_ands; exact (by repeat (first | exact Gr.refl _ | refine Gr.alloc ?_ | refine Gr.drew ?_ | refine Gr.trans ?_ (by assumption)))); rintro e w2 ⟨rfl, hg2⟩)
        | (go_at_call_of 23 (Value.int IntKind.i64 r1); go_at_call_of 23 (Value.int IntKind.i64 r3); refine (C13.out _ ?_).mono ?_; (go_split_ands; exact (by repeat (first | exact Gr.refl _ | refine Gr.alloc ?_ | refine Gr.drew ?_ | refine Gr.trans ?_ (by assumption)))); rintro e w2 ⟨rfl, hg2⟩)))
    all_goals (go_wp2_with fail; go_meet; exact ⟨rfl, rfl, rfl, (by repeat (first | exact Gr.refl _ | refine Gr.alloc ?_ | refine Gr.drew ?_ | refine Gr.trans ?_ (by assumption)))⟩)
  case rest =>
  obtain ⟨wp, rfl⟩ : ∃ x, x = wc := ⟨_, rfl⟩
  obtain ⟨rfl, rfl, rfl, hgc⟩ := hcut
  have GW : Hid (Gr w wp) := G1.out.trans hgc
  have B1p : Hid (BoxAt wp w.heap.size (.int .i64 r1) (.int .i64 n1) (.slice ad1 L1.length cap1)) := B1h.out.gr hgc
  have B2p : Hid (BoxAt wp (w.heap.size + 1) (.int .i64 r2) (.int .i64 n2) (.slice ad2 L2.length cap2)) := B2h.out.gr hgc
  clear a0 a1 a2 b0 b1 b2 c0 c1 c2 alt blt clt hgc C12 C23 C13 B1h B2h G1' G1
  obtain ⟨a0, a1, a2, _, _, _, alt⟩ := B1p.out
  obtain ⟨b0, b1, b2, _, _, _, blt⟩ := B2p.out
  go_upto_region 4 with fail
  go_cut [72] (fun s72 wx => s72 = .bool false ∧ Gr wp wx)
  case first =>
    go_wp2_with fail
    refine (C21.out _ GW.out).mono ?_
    rintro e w4 ⟨rfl, hg4⟩
    clear a0 a1 a2 b0 b1 b2 alt blt
    obtain ⟨a0, a1, a2, _, _, _, alt⟩ := B1p.out.gr hg4
    obtain ⟨k1, k2, _⟩ := hch
    rcases hx with rfl | rfl | rfl
    · by_cases hy : y ≤ 0
      · have z1 : ¬ (0 < z) := by have := k2 (by omega) hy; omega
        have HZ1 : Hid (decide (0 < z) = false) := decide_eq_false z1
        have z2 : ¬ (0 ≤ z) := by have := k2 (by omega) hy; omega
        have HZ2 : Hid (decide (0 ≤ z) = false) := decide_eq_false z2
        clear k1 k2
        go_wp2_with fail
        refine (C11.out _ ?_).mono ?_
        · exact GW.out.trans hg4
        rintro e w5 ⟨rfl, hg5⟩
        go_wp2_with fail
        go_meet
        exact ⟨by first | rfl | (rw [HZ1.out, HZ2.out]; rfl) | rw [HZ1.out], hg4.trans hg5⟩
      · clear k1 k2
        go_wp2_with fail
        refine (C11.out _ ?_).mono ?_
        · exact GW.out.trans hg4
        rintro e w5 ⟨rfl, hg5⟩
        go_wp2_with fail
        go_meet
        exact ⟨by first | rfl | (rw [HZ1.out, HZ2.out]; rfl) | rw [HZ1.out], hg4.trans hg5⟩
    · by_cases hy : y ≤ 0
      · have z1 : ¬ (0 < z) := by have := k1 (by omega) hy; omega
        have HZ1 : Hid (decide (0 < z) = false) := decide_eq_false z1
        clear k1 k2
        go_wp2_with fail
        refine (C11.out _ ?_).mono ?_
        · exact GW.out.trans hg4
        rintro e w5 ⟨rfl, hg5⟩
        go_wp2_with fail
        go_meet
        exact ⟨by first | rfl | (rw [HZ1.out, HZ2.out]; rfl) | rw [HZ1.out], hg4.trans hg5⟩
      · clear k1 k2
        go_wp2_with fail
        refine (C11.out _ ?_).mono ?_
        · exact GW.out.trans hg4
        rintro e w5 ⟨rfl, hg5⟩
        go_wp2_with fail
        go_meet
        exact ⟨by first | rfl | (rw [HZ1.out, HZ2.out]; rfl) | rw [HZ1.out], hg4.trans hg5⟩
    · clear k1 k2
      go_wp2_with fail
      refine (C11.out _ ?_).mono ?_
      · exact GW.out.trans hg4
      rintro e w5 ⟨rfl, hg5⟩
      go_wp2_with fail
      go_meet
      exact ⟨by first | rfl | (rw [HZ1.out, HZ2.out]; rfl) | rw [HZ1.out], hg4.trans hg5⟩
  case rest =>
  obtain ⟨wq, rfl⟩ : ∃ x, x = wc := ⟨_, rfl⟩
  obtain ⟨rfl, hgq⟩ := hcut
  have GQ : Hid (Gr w wq) := GW.out.trans hgq
  have B1q : Hid (BoxAt wq w.heap.size (.int .i64 r1) (.int .i64 n1) (.slice ad1 L1.length cap1)) := B1p.out.gr hgq
  have B2q : Hid (BoxAt wq (w.heap.size + 1) (.int .i64 r2) (.int .i64 n2) (.slice ad2 L2.length cap2)) := B2p.out.gr hgq
  clear a0 a1 a2 b0 b1 b2 alt blt hgq C21 C11 B1p B2p GW hx hch
  have e1 : ((x == 0) == (x == 0)) = true := by simp
  obtain ⟨a0, a1, a2, _, _, _, alt⟩ := B1q.out
  go_wp2_with fail
  refine (HP.out _ GQ.out).mono ?_
  rintro e w6 ⟨a6, c6, rfl, q6, hg6⟩
  have G6 : Hid (Gr w w6) := GQ.out.trans hg6
  have Q6 : Hid (HopsAt w6 a6 Lp) := q6
  have B16 : Hid (BoxAt w6 w.heap.size (.int .i64 r1) (.int .i64 n1) (.slice ad1 L1.length cap1)) := B1q.out.gr hg6
  have B26 : Hid (BoxAt w6 (w.heap.size + 1) (.int .i64 r2) (.int .i64 n2) (.slice ad2 L2.length cap2)) := B2q.out.gr hg6
  clear a0 a1 a2 alt q6 hg6 B1q B2q GQ HP
  obtain ⟨a0, a1, a2, _, _, _, alt⟩ := B16.out
  obtain ⟨b0, b1, b2, _, _, _, blt⟩ := B26.out
  go_wp2_with fail
  refine (HSM.out _ ?_).mono ?_
  · exact G6.out.alloc
  rintro e w7 ⟨rfl, hg7⟩
  have G7 : Hid (Gr w w7) := G6.out.alloc.trans hg7
  have Q7 : Hid (HopsAt w7 a6 Lp) := Q6.out.alloc.gr hg7
  have B17 : Hid (BoxAt w7 w.heap.size (.int .i64 r1) (.int .i64 n1) (.slice ad1 L1.length cap1)) := (B16.out.gr (Gr.refl _).alloc).gr hg7
  have P7 : Hid (BoxAt w7 w6.heap.size (.int .i64 rp) (.int .i64 np) (.slice a6 Lp.length c6)) := (BoxAt.new w6 _ _ _ 24 _ rfl).gr hg7
  clear a0 a1 a2 alt b0 b1 b2 blt Q6 hg7 B16 B26 G6 HSM
  obtain ⟨a0, a1, a2, _, _, _, alt⟩ := B17.out
  obtain ⟨b0, b1, b2, _, _, _, blt⟩ := P7.out
  cases ok with
  | false =>
    clear HCP HU1 HU2
    go_wp2_with fail
    refine (HA.out _ G7.out).mono ?_
    rintro e w8 ⟨rfl, hg8⟩
    go_wp2
    go_ret
    exact ⟨rfl, G7.out.trans hg8⟩
  | true =>
    go_wp2_with fail
    refine (HCP.out (by simp) _ _ _ G7.out Q7.out).mono ?_
    rintro e w8 ⟨rfl, hg8⟩
    have G8 : Hid (Gr w w8) := G7.out.trans hg8
    have Q8 : Hid (HopsAt w8 a6 Lp) := Q7.out.gr hg8
    have B18 : Hid (BoxAt w8 w.heap.size (.int .i64 r1) (.int .i64 n1) (.slice ad1 L1.length cap1)) := B17.out.gr hg8
    have P8 : Hid (BoxAt w8 w6.heap.size (.int .i64 rp) (.int .i64 np) (.slice a6 Lp.length c6)) := P7.out.gr hg8
    clear a0 a1 a2 alt b0 b1 b2 blt Q7 hg8 B17 P7 G7 HCP
    obtain ⟨a0, a1, a2, _, _, _, alt⟩ := B18.out
    obtain ⟨b0, b1, b2, _, _, _, blt⟩ := P8.out
    go_wp2_with fail
    refine (HU1.out (by simp) _ _ a6 c6 ?_ (tops_lit1 w8 rp np Lp a6 c6 _ _ rfl Q8.out HL1n.out.2)).mono ?_
    · exact G8.out.alloc
    rintro e w9 ⟨rfl, hg9⟩
    have G9 : Hid (Gr w w9) := G8.out.alloc.trans hg9
    have Q9 : Hid (HopsAt w9 a6 Lp) := Q8.out.alloc.gr hg9
    have B19 : Hid (BoxAt w9 w.heap.size (.int .i64 r1) (.int .i64 n1) (.slice ad1 L1.length cap1)) := (B18.out.gr (Gr.refl _).alloc).gr hg9
    have P9 : Hid (BoxAt w9 w6.heap.size (.int .i64 rp) (.int .i64 np) (.slice a6 Lp.length c6)) := (P8.out.gr (Gr.refl _).alloc).gr hg9
    clear a0 a1 a2 alt b0 b1 b2 blt Q8 hg9 B18 P8 G8 HU1
    obtain ⟨a0, a1, a2, _, _, _, alt⟩ := B19.out
    obtain ⟨b0, b1, b2, _, _, _, blt⟩ := P9.out
    go_wp2_with fail
    refine (HU2.out (by simp) _ _ a6 c6 Q9.out.alloc (tops_lit1 w9 r1 n1 L1 ad1 cap1 _ _ rfl (HL1.out.gr G9.out) HL1n.out.1)).mono ?_
    rintro e w10 ⟨rfl, hg10⟩
    have G10 : Hid (Gr w w10) := G9.out.alloc.trans hg10
    clear hg10 HU2
    go_wp2_with fail
    refine (HA.out _ G10.out).mono ?_
    rintro e w11 ⟨rfl, hg11⟩
    go_wp2
    go_ret
    exact ⟨rfl, G10.out.trans hg11⟩
end Go.Proofs.YtmidlcipbpchgaaDoor
