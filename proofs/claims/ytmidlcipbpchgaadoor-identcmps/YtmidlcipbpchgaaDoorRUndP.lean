/- The document's Under. -/
import Derived.Test.YtmidlcipbpchgaaDoorUndP
import Derived.Test.YtmidlcipbpchgaaDoorRCmpP
import Derived.Test.YtmidlcipbpchgaaDoorParP
import Derived.Deep.RegionHeld3
namespace Go.Proofs.YtmidlcipbpchgaaDoor
open Go.RowKit

theorem slice_lowH (ad : Option Addr) (n cap c : Nat) (hc : c ≤ n) (hn : n ≤ cap) (W : World) :
    (Instr.sliceAt 22 (.slice ad n cap) none (some (.int .i64 c)) none).run Tryd.prog W = .ok (.slice ad c cap) W := by
  have h1 : (c : Int) ≤ cap := by omega
  go_simp
theorem beg_iff (L : List (Int × Int)) : ∀ F, begB L F = true ↔ ∃ j, j ≤ L.length ∧ F = L.take j := by
  induction L with
  | nil =>
    intro F
    cases F with
    | nil => simp [begB]
    | cons f g => simp [begB]
  | cons h t ih =>
    intro F
    cases F with
    | nil => exact ⟨fun _ => ⟨0, by simp, rfl⟩, fun _ => rfl⟩
    | cons f g =>
      rw [begB, Bool.and_eq_true, decide_eq_true_eq, ih g]
      constructor
      · rintro ⟨rfl, j, hj, rfl⟩
        exact ⟨j + 1, by simpa using hj, rfl⟩
      · rintro ⟨j, hj, e⟩
        cases j with
        | zero => simp at e
        | succ j =>
          rw [List.take_succ_cons] at e
          obtain ⟨rfl, rfl⟩ := List.cons.inj e
          exact ⟨rfl, j, by simpa using hj, rfl⟩
theorem top_iff (r n : Int) (L : List (Int × Int)) (t : Top) : topB r n L t = true ↔ ∃ j, j ≤ L.length ∧ Idn.cmpE t.r t.n t.L r n (L.take j) = 0 := by
  unfold topB
  rw [Bool.and_eq_true, Bool.and_eq_true, beq_iff_eq, beq_iff_eq, beg_iff]
  constructor
  · rintro ⟨⟨h1, h2⟩, j, hj, h3⟩
    exact ⟨j, hj, (Idn.cmpE_zero _ _ _ _ _ _).2 ⟨h1, h2, h3⟩⟩
  · rintro ⟨j, hj, h⟩
    obtain ⟨h1, h2, h3⟩ := (Idn.cmpE_zero _ _ _ _ _ _).1 h
    exact ⟨⟨h1, h2⟩, j, hj, h3⟩
theorem under_more (r n : Int) (L : List (Int × Int)) (T : List Top) (k : Nat) (h : k < T.length) : underB r n L (T.take (k + 1)) = (underB r n L (T.take k) || topB r n L T[k]) := by
  unfold underB
  rw [List.take_succ_eq_append_getElem h, List.any_append]
  simp

set_option maxHeartbeats 8000000 in
set_option maxRecDepth 100000 in
theorem refUnder_any (r n : Int) (L : List (Int × Int)) (ad : Option Addr) (cap : Nat) (T : List Top) (ad2 : Option Addr) (cap2 : Nat) (w : World) (hL : HopsAt w ad L) (hT : TopsAt w ad2 T) (hn : L.length ≤ 900) (hc : L.length ≤ cap) (hm : T.length ≤ 9223372036854775807) :
    Calls Tryd.prog 26 #[.agg #[.int .i64 r, .int .i64 n, .slice ad L.length cap], .slice ad2 T.length cap2] w fun e w' => e = .returned (.bool (underB r n L T)) ∧ Gr w w' := by
  have HL : Hid (HopsAt w ad L) := hL
  have HT : Hid (TopsAt w ad2 T) := hT
  obtain ⟨W0, hW0⟩ : ∃ x, x = w.alloc (.cells #[.int .i64 r, .int .i64 n, .slice ad L.length cap] 24) := ⟨_, rfl⟩
  have HB : Hid (BoxAt W0 w.heap.size (.int .i64 r) (.int .i64 n) (.slice ad L.length cap)) := by show BoxAt _ _ _ _ _; rw [hW0]; exact BoxAt.new w _ _ _ _ _ rfl
  have HG : Hid (Gr w W0) := by show Gr _ _; rw [hW0]; exact (by repeat (first | exact Gr.refl _ | refine Gr.alloc ?_ | refine Gr.drew ?_ | refine Gr.trans ?_ (by assumption)))
  have HW0 : Hid (W0 = w.alloc (.cells #[.int .i64 r, .int .i64 n, .slice ad L.length cap] 24)) := hW0
  clear hL hT hW0
  go_enter Tryd.func26, Tryd.ntmps26
  go_wp2
  go_loopw [5] (fun i wr => ∃ k : Nat, k ≤ T.length ∧ i = .int .i64 k ∧ underB r n L (T.take k) = false ∧ Gr W0 wr) (fun i _ => T.length - (intOf i).toNat)
  case atStart => exact ⟨0, by omega, rfl, rfl, by rw [HW0.out]; exact Gr.refl _⟩
  case round =>
    obtain ⟨k, hk, rfl, hu, hg⟩ := hrel
    have HU : Hid (underB r n L (T.take k) = false) := hu
    obtain ⟨wo, rfl⟩ : ∃ x, x = wr := ⟨_, rfl⟩
    have HGO : Hid (Gr W0 wo) := hg
    clear hu hg
    by_cases hlt : k < T.length
    · obtain ⟨b, off, rfl, hbl, h1, h2, h3, h4, h5⟩ := HT.out k hlt
      have HM : Hid (underB r n L (T.take (k + 1)) = (underB r n L (T.take k) || topB r n L T[k])) := under_more r n L T k hlt
      have HIN : Hid (topB r n L T[k] = true → underB r n L T = true) := by
        intro h
        unfold underB
        exact List.any_eq_true.2 ⟨T[k], List.getElem_mem hlt, h⟩
      have HTI : Hid (topB r n L T[k] = true ↔ ∃ j, j ≤ L.length ∧ Idn.cmpE T[k].r T[k].n T[k].L r n (L.take j) = 0) := top_iff r n L T[k]
      have H1 : Hid (w.cell? ⟨b, off + k * 3, none⟩ = some (.int .i64 T[k].r)) := h1
      have H2 : Hid (w.cell? ⟨b, off + k * 3 + 1, none⟩ = some (.int .i64 T[k].n)) := h2
      have H3 : Hid (w.cell? ⟨b, off + k * 3 + 2, none⟩ = some (.slice T[k].ad T[k].L.length T[k].cap)) := h3
      have H4 : Hid (HopsAt w T[k].ad T[k].L) := h4
      have H5 : Hid (T[k].L.length ≤ 9223372036854775807) := h5
      clear h1 h2 h3 h4 h5
      have hki : (k : Int) < (T.length : Int) := by omega
      generalize T[k] = t at *
      obtain ⟨tr, tn, tL, tad, tcap⟩ := t
      simp only at H1 H2 H3 H4 H5 HTI
      have HC : Hid (∀ (w' : World) (j : Nat), Gr w w' → j ≤ L.length → Calls Tryd.prog 24 #[.agg #[.int .i64 tr, .int .i64 tn, .slice tad tL.length tcap], .agg #[.int .i64 r, .int .i64 n, .slice ad j cap]] w' fun e w2 => e = .returned (.int .i64 (Idn.cmpE tr tn tL r n (L.take j))) ∧ Gr w' w2) := by
        intro w' j g hj
        have := refCmp_any tr tn tL tad tcap r n (L.take j) ad cap w' (H4.out.gr g) ((HL.out.gr g).take j) H5.out (by rw [List.length_take]; omega)
        rw [List.length_take, Nat.min_eq_left hj] at this
        exact this
      go_wp2
      go_loopw [6] (fun i wr => ∃ j : Nat, j ≤ L.length + 1 ∧ i = .int .i64 j ∧ (∀ q, q < j → Idn.cmpE tr tn tL r n (L.take q) ≠ 0) ∧ Gr W0 wr) (fun i _ => L.length + 1 - (intOf i).toNat)
      case atStart => exact ⟨0, by omega, rfl, fun q h => absurd h (by omega), HGO.out⟩
      case round =>
        obtain ⟨j, hj, rfl, hq, hg⟩ := hrel
        have HQ : Hid (∀ q, q < j → Idn.cmpE tr tn tL r n (L.take q) ≠ 0) := hq
        have HGR : Hid (Gr W0 wr) := hg
        clear hq hg
        obtain ⟨a0, a1, a2, _, _, _, alt⟩ := HB.out.gr HGR.out
        by_cases hlt2 : j ≤ L.length
        · have hji : (j : Int) ≤ (L.length : Int) := by omega
          have hsl := slice_lowH ad L.length cap j hlt2 hc
          have c1 := (HG.out.trans HGR.out).keep H1.out
          have c2 := (HG.out.trans HGR.out).keep H2.out
          have c3 := (HG.out.trans HGR.out).keep H3.out
          have hbw : b < wr.heap.size := Nat.lt_of_lt_of_le hbl (HG.out.trans HGR.out).size
          have g0 : Gr w wr := HG.out.trans HGR.out
          have hcc : ∀ (w' : World), Gr w w' → Calls Tryd.prog 24 #[.agg #[.int .i64 tr, .int .i64 tn, .slice tad tL.length tcap], .agg #[.int .i64 r, .int .i64 n, .slice ad j cap]] w' fun e w2 => e = .returned (.int .i64 (Idn.cmpE tr tn tL r n (L.take j))) ∧ Gr w' w2 := fun w' g => HC.out w' j g hlt2
          obtain ⟨cv, ecv⟩ : ∃ x, Idn.cmpE tr tn tL r n (L.take j) = x := ⟨_, rfl⟩
          have ECV : Hid (Idn.cmpE tr tn tL r n (L.take j) = cv) := ecv
          rw [ecv] at hcc
          have HCC : Hid (∀ (w' : World), Gr w w' → Calls Tryd.prog 24 #[.agg #[.int .i64 tr, .int .i64 tn, .slice tad tL.length tcap], .agg #[.int .i64 r, .int .i64 n, .slice ad j cap]] w' fun e w2 => e = .returned (.int .i64 cv) ∧ Gr w' w2) := hcc
          clear ecv hcc
          by_cases hz : cv = 0
          · have hzb : (cv == 0) = true := by simpa using hz
            have HF : Hid (underB r n L T = true) := HIN.out (HTI.out.2 ⟨j, hlt2, by rw [ECV.out, hz]⟩)
            clear hz
            go_wp2
            go_region_held3 (fun w' => Gr w w' ∧ Gr wr w' ∧ w'.cell? ⟨w.heap.size, 0, none⟩ = some (.int .i64 r) ∧ w'.cell? ⟨w.heap.size, 1, none⟩ = some (.int .i64 n) ∧ w'.cell? ⟨w.heap.size, 2, none⟩ = some (.slice ad L.length cap) ∧ w'.cell? ⟨b, off + k * 3, none⟩ = some (.int .i64 tr) ∧ w'.cell? ⟨b, off + k * 3 + 1, none⟩ = some (.int .i64 tn) ∧ w'.cell? ⟨b, off + k * 3 + 2, none⟩ = some (.slice tad tL.length tcap))
              ((go_split_ands; exact ⟨(by repeat (first | exact Gr.refl _ | refine Gr.alloc ?_ | refine Gr.drew ?_ | refine Gr.trans ?_ (by assumption))), (by repeat (first | exact Gr.refl _ | refine Gr.alloc ?_ | refine Gr.drew ?_ | refine Gr.trans ?_ (by assumption))), Gr.keep (W := wr) (by repeat (first | exact Gr.refl _ | refine Gr.alloc ?_ | refine Gr.drew ?_ | refine Gr.trans ?_ (by assumption))) a0, Gr.keep (W := wr) (by repeat (first | exact Gr.refl _ | refine Gr.alloc ?_ | refine Gr.drew ?_ | refine Gr.trans ?_ (by assumption))) a1, Gr.keep (W := wr) (by repeat (first | exact Gr.refl _ | refine Gr.alloc ?_ | refine Gr.drew ?_ | refine Gr.trans ?_ (by assumption))) a2, Gr.keep (W := wr) (by repeat (first | exact Gr.refl _ | refine Gr.alloc ?_ | refine Gr.drew ?_ | refine Gr.trans ?_ (by assumption))) c1, Gr.keep (W := wr) (by repeat (first | exact Gr.refl _ | refine Gr.alloc ?_ | refine Gr.drew ?_ | refine Gr.trans ?_ (by assumption))) c2, Gr.keep (W := wr) (by repeat (first | exact Gr.refl _ | refine Gr.alloc ?_ | refine Gr.drew ?_ | refine Gr.trans ?_ (by assumption))) c3⟩))
              ((go_at_call 24; refine (HCC.out _ ?_).mono ?_; (go_split_ands; exact (by repeat (first | exact Gr.refl _ | refine Gr.alloc ?_ | refine Gr.drew ?_ | refine Gr.trans ?_ (by assumption)))); rintro e w2 ⟨rfl, hg2⟩))
            all_goals go_wp2
            all_goals go_ret
            all_goals exact ⟨by rw [HF.out]; rfl, HG.out.trans (HGR.out.trans (by repeat (first | exact Gr.refl _ | refine Gr.alloc ?_ | refine Gr.drew ?_ | refine Gr.trans ?_ (by assumption))))⟩
          · have hzb : (cv == 0) = false := by simpa using hz
            have HZ : Hid (cv ≠ 0) := hz
            clear hz
            go_wp2
            go_region_held3 (fun w' => Gr w w' ∧ Gr wr w' ∧ w'.cell? ⟨w.heap.size, 0, none⟩ = some (.int .i64 r) ∧ w'.cell? ⟨w.heap.size, 1, none⟩ = some (.int .i64 n) ∧ w'.cell? ⟨w.heap.size, 2, none⟩ = some (.slice ad L.length cap) ∧ w'.cell? ⟨b, off + k * 3, none⟩ = some (.int .i64 tr) ∧ w'.cell? ⟨b, off + k * 3 + 1, none⟩ = some (.int .i64 tn) ∧ w'.cell? ⟨b, off + k * 3 + 2, none⟩ = some (.slice tad tL.length tcap))
              ((go_split_ands; exact ⟨(by repeat (first | exact Gr.refl _ | refine Gr.alloc ?_ | refine Gr.drew ?_ | refine Gr.trans ?_ (by assumption))), (by repeat (first | exact Gr.refl _ | refine Gr.alloc ?_ | refine Gr.drew ?_ | refine Gr.trans ?_ (by assumption))), Gr.keep (W := wr) (by repeat (first | exact Gr.refl _ | refine Gr.alloc ?_ | refine Gr.drew ?_ | refine Gr.trans ?_ (by assumption))) a0, Gr.keep (W := wr) (by repeat (first | exact Gr.refl _ | refine Gr.alloc ?_ | refine Gr.drew ?_ | refine Gr.trans ?_ (by assumption))) a1, Gr.keep (W := wr) (by repeat (first | exact Gr.refl _ | refine Gr.alloc ?_ | refine Gr.drew ?_ | refine Gr.trans ?_ (by assumption))) a2, Gr.keep (W := wr) (by repeat (first | exact Gr.refl _ | refine Gr.alloc ?_ | refine Gr.drew ?_ | refine Gr.trans ?_ (by assumption))) c1, Gr.keep (W := wr) (by repeat (first | exact Gr.refl _ | refine Gr.alloc ?_ | refine Gr.drew ?_ | refine Gr.trans ?_ (by assumption))) c2, Gr.keep (W := wr) (by repeat (first | exact Gr.refl _ | refine Gr.alloc ?_ | refine Gr.drew ?_ | refine Gr.trans ?_ (by assumption))) c3⟩))
              ((go_at_call 24; refine (HCC.out _ ?_).mono ?_; (go_split_ands; exact (by repeat (first | exact Gr.refl _ | refine Gr.alloc ?_ | refine Gr.drew ?_ | refine Gr.trans ?_ (by assumption)))); rintro e w2 ⟨rfl, hg2⟩))
            all_goals go_wp2
            all_goals
              go_roundw
              case rel => exact ⟨j + 1, by omega, by go_num, fun q h => by
                by_cases e : q = j
                · rw [e, ECV.out]; exact HZ.out
                · exact HQ.out q (by omega), HGR.out.trans (by repeat (first | exact Gr.refl _ | refine Gr.alloc ?_ | refine Gr.drew ?_ | refine Gr.trans ?_ (by assumption)))⟩
              case measure => simp [intOf]; omega
        · have hji : ¬ ((j : Int) ≤ (L.length : Int)) := by omega
          have HF : Hid (underB r n L (T.take (k + 1)) = false) := by
            show _ = _
            rw [HM.out, HU.out, Bool.false_or]
            cases ht : topB r n L ⟨tr, tn, tL, tad, tcap⟩ with
            | false => rfl
            | true =>
              obtain ⟨q, hq, h⟩ := HTI.out.1 ht
              exact absurd h (HQ.out q (by omega))
          go_wp2
          go_roundw
          case rel => exact ⟨k + 1, by omega, by go_num, HF.out, HGR.out⟩
          case measure => simp [intOf]; omega
    · have HF : Hid (underB r n L T = false) := by
        have h := HU.out
        rw [List.take_of_length_le (by omega)] at h
        exact h
      have hki : ¬ ((k : Int) < (T.length : Int)) := by omega
      go_wp2
      go_ret
      exact ⟨by rw [HF.out]; rfl, HG.out.trans HGO.out⟩
end Go.Proofs.YtmidlcipbpchgaaDoor
