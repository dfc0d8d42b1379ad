/- For every input the law IdentCmps answers true: any ids have the document's order, and belong to each other, or not, as it says. -/
import Derived.Test.YtmidlcipbpchgaaDoorLaidR
import Derived.Test.YtmidlcipbpchgaaDoorOpenJ
import Derived.Test.YtmidlcipbpchgaaDoorAwk3
import Derived.Test.YtmidlcipbpchgaaDoorRUndP
import Derived.SevenTiedAt
namespace Go.Proofs.YtmidlcipbpchgaaDoor
open Go.ChangeShapes Go.WideShapes Go.ChangeAt Go.RowKit
open Go.ChangeMaps (open_string shut_string)

theorem lens_lit1 (w : World) (a1 b1 : Value) (d1 : Option Addr) (l1 c1 : Nat) (t : TypeId) (g : Nat) (hg : g = w.heap.size) :
    LensAt (w.alloc (.cells #[a1, b1, .slice d1 l1 c1] t)) (some ⟨g, 0, none⟩) [l1] := by
  subst hg
  intro j hj
  obtain rfl : j = 0 := by simpa using hj
  exact ⟨_, _, rfl, by simp, d1, c1, by simp⟩

set_option maxHeartbeats 20000000 in
set_option maxRecDepth 100000 in
theorem identCmps_walk (r n : Int) (L : List (Int × Int)) (ad : Option Addr) (cap : Nat) (T : List Top) (ad2 : Option Addr) (cap2 : Nat) (w : World) (he : Env w) (hL : HopsAt w ad L) (hTA : TopsAt w ad2 T) (hn : L.length ≤ 9223372036854775807) (hc : L.length ≤ cap) (hm : T.length ≤ 9223372036854775807) :
    Calls Tryd.prog 5 #[.agg #[.int .i64 r, .int .i64 n, .slice ad L.length cap], .slice ad2 T.length cap2] w fun e w' => e = .returned (.bool true) ∧ Gr w w' := by
  have HA : Hid (∀ w', Gr w w' → Calls Tryd.prog 16 #[] w' fun e w2 => e = .returned (.bool true) ∧ Gr w' w2) := fun w' g => awake_any w' (he.gr g)
  have HF : Hid (∀ (w' : World) (g : Nat), LensAt w' (some ⟨g, 0, none⟩) [L.length] → Calls Tryd.prog 17 #[.slice (some ⟨g, 0, none⟩) 1 1] w' fun e w2 => e = .returned (.bool (fewB [L.length])) ∧ w2 = w') := fun w' g h => few_any [L.length] _ 1 w' h (by simp) (by simp; omega)
  have HF2 : Hid (∀ (w' : World), Gr w w' → Calls Tryd.prog 17 #[.slice ad2 T.length cap2] w' fun e w2 => e = .returned (.bool (fewB (T.map fun t => t.L.length))) ∧ w2 = w') := by
    intro w' g
    have := few_any (T.map fun t => t.L.length) ad2 cap2 w' (lens_tops (hTA.gr g)) (by simpa using hm) (by
      intro x hx
      obtain ⟨t, ht, rfl⟩ := List.mem_map.1 hx
      obtain ⟨j, hj, rfl⟩ := List.getElem_of_mem ht
      obtain ⟨_, _, _, _, _, _, _, _, h5⟩ := hTA j hj
      exact h5)
    rw [List.length_map] at this
    exact this
  cases hf : fewB [L.length] with
  | false =>
    rw [hf] at HF
    clear hf he hL hTA HF2
    go_enter Tryd.func5, Tryd.ntmps5
    go_wp2_with fail
    refine (HF.out _ _ (lens_lit1 _ _ _ _ _ _ _ _ (by simp))).mono ?_
    rintro e1 w1 ⟨rfl, hw1⟩
    have G : Hid (Gr w w1) := by rw [hw1]; exact (by repeat (first | exact Gr.refl _ | refine Gr.alloc ?_ | refine Gr.drew ?_ | refine Gr.trans ?_ (by assumption)))
    clear hw1
    go_wp2_with fail
    refine (HA.out _ G.out).mono ?_
    rintro e8 w8 ⟨rfl, hg8⟩
    go_wp2
    go_ret
    exact ⟨rfl, G.out.trans hg8⟩
  | true =>
    rw [hf] at HF
    cases hf2 : fewB (T.map fun t => t.L.length) with
    | false =>
      rw [hf2] at HF2
      clear hf hf2 he hL hTA
      go_enter Tryd.func5, Tryd.ntmps5
      go_wp2_with fail
      refine (HF.out _ _ (lens_lit1 _ _ _ _ _ _ _ _ (by simp))).mono ?_
      rintro e1 w1 ⟨rfl, hw1⟩
      have G : Hid (Gr w w1) := by rw [hw1]; exact (by repeat (first | exact Gr.refl _ | refine Gr.alloc ?_ | refine Gr.drew ?_ | refine Gr.trans ?_ (by assumption)))
      clear hw1
      go_wp2_with fail
      refine (HF2.out _ G.out).mono ?_
      rintro e2 w2 ⟨rfl, hw2⟩; obtain rfl := hw2.symm
      go_wp2_with fail
      refine (HA.out _ G.out).mono ?_
      rintro e8 w8 ⟨rfl, hg8⟩
      go_wp2
      go_ret
      exact ⟨rfl, G.out.trans hg8⟩
    | true =>
      rw [hf2] at HF2
      have hl : L.length ≤ 200 := by simpa [fewB] using hf
      have HC : Hid (∀ (w' : World) (t : Top), Gr w w' → HopsAt w t.ad t.L → t.L.length ≤ 9223372036854775807 → Calls Tryd.prog 23 #[.agg #[.int .i64 r, .int .i64 n, .slice ad L.length cap], .agg #[.int .i64 t.r, .int .i64 t.n, .slice t.ad t.L.length t.cap]] w' fun e w2 => e = .returned (.int .i64 (Idn.cmpE r n L t.r t.n t.L)) ∧ Gr w' w2) := fun w' t g h h5 => cmp_any r n L ad cap t.r t.n t.L t.ad t.cap w' (hL.gr g) (h.gr g) hn h5
      have HR : Hid (∀ (w' : World) (t : Top), Gr w w' → HopsAt w t.ad t.L → t.L.length ≤ 9223372036854775807 → Calls Tryd.prog 24 #[.agg #[.int .i64 r, .int .i64 n, .slice ad L.length cap], .agg #[.int .i64 t.r, .int .i64 t.n, .slice t.ad t.L.length t.cap]] w' fun e w2 => e = .returned (.int .i64 (Idn.cmpE r n L t.r t.n t.L)) ∧ Gr w' w2) := fun w' t g h h5 => refCmp_any r n L ad cap t.r t.n t.L t.ad t.cap w' (hL.gr g) (h.gr g) hn h5
      have HU : Hid (∀ w', Gr w w' → Calls Tryd.prog 25 #[.agg #[.int .i64 r, .int .i64 n, .slice ad L.length cap], .slice ad2 T.length cap2] w' fun e w2 => e = .returned (.bool (underB r n L T)) ∧ Gr w' w2) := fun w' g => under_any r n L ad cap T ad2 cap2 w' (hL.gr g) (hTA.gr g) hn hm
      have HV : Hid (∀ w', Gr w w' → Calls Tryd.prog 26 #[.agg #[.int .i64 r, .int .i64 n, .slice ad L.length cap], .slice ad2 T.length cap2] w' fun e w2 => e = .returned (.bool (underB r n L T)) ∧ Gr w' w2) := fun w' g => refUnder_any r n L ad cap T ad2 cap2 w' (hL.gr g) (hTA.gr g) (by omega) hc hm
      have HT : Hid (TopsAt w ad2 T) := hTA
      generalize underB r n L T = ub at *
      have eub : (ub == ub) = true := by simp
      clear hf hf2 he hL hTA hc
      go_enter Tryd.func5, Tryd.ntmps5
      go_wp2_with fail
      refine (HF.out _ _ (lens_lit1 _ _ _ _ _ _ _ _ (by simp))).mono ?_
      rintro e1 w1 ⟨rfl, hw1⟩
      have G : Hid (Gr w w1) := by rw [hw1]; exact (by repeat (first | exact Gr.refl _ | refine Gr.alloc ?_ | refine Gr.drew ?_ | refine Gr.trans ?_ (by assumption)))
      have B : Hid (BoxAt w1 w.heap.size (.int .i64 r) (.int .i64 n) (.slice ad L.length cap)) := by
        show BoxAt _ _ _ _ _
        rw [hw1]; exact (BoxAt.new w _ _ _ _ _ rfl).gr (by repeat (first | exact Gr.refl _ | refine Gr.alloc ?_ | refine Gr.drew ?_ | refine Gr.trans ?_ (by assumption)))
      clear hw1
      go_wp2_with fail
      refine (HF2.out _ G.out).mono ?_
      rintro e2 w2 ⟨rfl, hw2⟩; obtain rfl := hw2.symm
      clear HF HF2
      go_wp2
      go_loopw [5] (fun i wr => ∃ k : Nat, k ≤ T.length ∧ i = .int .i64 k ∧ Gr w1 wr) (fun i _ => T.length - (intOf i).toNat)
      case atStart => exact ⟨0, by omega, rfl, Gr.refl _⟩
      case round =>
        obtain ⟨k, hk, rfl, hg⟩ := hrel
        obtain ⟨a0, a1, a2, _, _, _, alt⟩ := B.out.gr hg
        have g0 : Gr w wr := G.out.trans hg
        by_cases hlt : k < T.length
        · obtain ⟨b, off, rfl, hbl, h1, h2, h3, h4, h5⟩ := HT.out k hlt
          have c1 := g0.keep h1
          have c2 := g0.keep h2
          have c3 := g0.keep h3
          have hbw : b < wr.heap.size := Nat.lt_of_lt_of_le hbl g0.size
          have hki : (k : Int) < (T.length : Int) := by omega
          have hcc : ∀ w', Gr w w' → Calls Tryd.prog 23 #[.agg #[.int .i64 r, .int .i64 n, .slice ad L.length cap], .agg #[.int .i64 T[k].r, .int .i64 T[k].n, .slice T[k].ad T[k].L.length T[k].cap]] w' fun e w2 => e = .returned (.int .i64 (Idn.cmpE r n L T[k].r T[k].n T[k].L)) ∧ Gr w' w2 := fun w' g => HC.out w' T[k] g h4 h5
          have hrr : ∀ w', Gr w w' → Calls Tryd.prog 24 #[.agg #[.int .i64 r, .int .i64 n, .slice ad L.length cap], .agg #[.int .i64 T[k].r, .int .i64 T[k].n, .slice T[k].ad T[k].L.length T[k].cap]] w' fun e w2 => e = .returned (.int .i64 (Idn.cmpE r n L T[k].r T[k].n T[k].L)) ∧ Gr w' w2 := fun w' g => HR.out w' T[k] g h4 h5
          clear h1 h2 h3 h4 h5
          generalize Idn.cmpE r n L T[k].r T[k].n T[k].L = cv at *
          generalize T[k] = t at *
          obtain ⟨tr, tn, tL, tad, tcap⟩ := t
          simp only at c1 c2 c3 hcc hrr
          have HCC : Hid (∀ w', Gr w w' → Calls Tryd.prog 23 #[.agg #[.int .i64 r, .int .i64 n, .slice ad L.length cap], .agg #[.int .i64 tr, .int .i64 tn, .slice tad tL.length tcap]] w' fun e w2 => e = .returned (.int .i64 cv) ∧ Gr w' w2) := hcc
          have HRR : Hid (∀ w', Gr w w' → Calls Tryd.prog 24 #[.agg #[.int .i64 r, .int .i64 n, .slice ad L.length cap], .agg #[.int .i64 tr, .int .i64 tn, .slice tad tL.length tcap]] w' fun e w2 => e = .returned (.int .i64 cv) ∧ Gr w' w2) := hrr
          have hne : (cv != cv) = false := by simp
          clear hcc hrr
          go_wp2
          go_region_held3 (fun w' => Gr w w' ∧ Gr wr w' ∧ w'.cell? ⟨w.heap.size, 0, none⟩ = some (.int .i64 r) ∧ w'.cell? ⟨w.heap.size, 1, none⟩ = some (.int .i64 n) ∧ w'.cell? ⟨w.heap.size, 2, none⟩ = some (.slice ad L.length cap) ∧ w'.cell? ⟨b, off + k * 3, none⟩ = some (.int .i64 tr) ∧ w'.cell? ⟨b, off + k * 3 + 1, none⟩ = some (.int .i64 tn) ∧ w'.cell? ⟨b, off + k * 3 + 2, none⟩ = some (.slice tad tL.length tcap))
            ((go_split_ands; exact ⟨(by repeat (first | exact Gr.refl _ | refine Gr.alloc ?_ | refine Gr.drew ?_ | refine Gr.trans ?_ (by assumption))), (by repeat (first | exact Gr.refl _ | refine Gr.alloc ?_ | refine Gr.drew ?_ | refine Gr.trans ?_ (by assumption))), Gr.keep (W := wr) (by repeat (first | exact Gr.refl _ | refine Gr.alloc ?_ | refine Gr.drew ?_ | refine Gr.trans ?_ (by assumption))) a0, Gr.keep (W := wr) (by repeat (first | exact Gr.refl _ | refine Gr.alloc ?_ | refine Gr.drew ?_ | refine Gr.trans ?_ (by assumption))) a1, Gr.keep (W := wr) (by repeat (first | exact Gr.refl _ | refine Gr.alloc ?_ | refine Gr.drew ?_ | refine Gr.trans ?_ (by assumption))) a2, Gr.keep (W := wr) (by repeat (first | exact Gr.refl _ | refine Gr.alloc ?_ | refine Gr.drew ?_ | refine Gr.trans ?_ (by assumption))) c1, Gr.keep (W := wr) (by repeat (first | exact Gr.refl _ | refine Gr.alloc ?_ | refine Gr.drew ?_ | refine Gr.trans ?_ (by assumption))) c2, Gr.keep (W := wr) (by repeat (first | exact Gr.refl _ | refine Gr.alloc ?_ | refine Gr.drew ?_ | refine Gr.trans ?_ (by assumption))) c3⟩))
            ((first
              | (go_at_call 23; refine (HCC.out _ ?_).mono ?_; (go_split_ands; exact (by repeat (first | exact Gr.refl _ | refine Gr.alloc ?_ | refine Gr.drew ?_ | refine Gr.trans ?_ (by assumption)))); rintro e w2 ⟨rfl, hg2⟩)
              | (go_at_call 24; refine (HRR.out _ ?_).mono ?_; (go_split_ands; exact (by repeat (first | exact Gr.refl _ | refine Gr.alloc ?_ | refine Gr.drew ?_ | refine Gr.trans ?_ (by assumption)))); rintro e w3 ⟨rfl, hg3⟩)))
          all_goals go_wp2
          all_goals
            go_roundw
            case rel => exact ⟨k + 1, by omega, by go_num, hg.trans (by repeat (first | exact Gr.refl _ | refine Gr.alloc ?_ | refine Gr.drew ?_ | refine Gr.trans ?_ (by assumption)))⟩
            case measure => simp [intOf]; omega
        · have hki : ¬ ((k : Int) < (T.length : Int)) := by omega
          go_wp2
          go_region_held3 (fun w' => Gr w w' ∧ Gr wr w' ∧ w'.cell? ⟨w.heap.size, 0, none⟩ = some (.int .i64 r) ∧ w'.cell? ⟨w.heap.size, 1, none⟩ = some (.int .i64 n) ∧ w'.cell? ⟨w.heap.size, 2, none⟩ = some (.slice ad L.length cap))
            ((go_split_ands; exact ⟨(by repeat (first | exact Gr.refl _ | refine Gr.alloc ?_ | refine Gr.drew ?_ | refine Gr.trans ?_ (by assumption))), (by repeat (first | exact Gr.refl _ | refine Gr.alloc ?_ | refine Gr.drew ?_ | refine Gr.trans ?_ (by assumption))), Gr.keep (W := wr) (by repeat (first | exact Gr.refl _ | refine Gr.alloc ?_ | refine Gr.drew ?_ | refine Gr.trans ?_ (by assumption))) a0, Gr.keep (W := wr) (by repeat (first | exact Gr.refl _ | refine Gr.alloc ?_ | refine Gr.drew ?_ | refine Gr.trans ?_ (by assumption))) a1, Gr.keep (W := wr) (by repeat (first | exact Gr.refl _ | refine Gr.alloc ?_ | refine Gr.drew ?_ | refine Gr.trans ?_ (by assumption))) a2⟩))
            ((first
              | (go_at_call 25; refine (HU.out _ ?_).mono ?_; (go_split_ands; exact (by repeat (first | exact Gr.refl _ | refine Gr.alloc ?_ | refine Gr.drew ?_ | refine Gr.trans ?_ (by assumption)))); rintro e w2 ⟨rfl, hg2⟩)
              | (go_at_call 26; refine (HV.out _ ?_).mono ?_; (go_split_ands; exact (by repeat (first | exact Gr.refl _ | refine Gr.alloc ?_ | refine Gr.drew ?_ | refine Gr.trans ?_ (by assumption)))); rintro e w3 ⟨rfl, hg3⟩)
              | (go_at_call 16; refine (HA.out _ ?_).mono ?_; (go_split_ands; exact (by repeat (first | exact Gr.refl _ | refine Gr.alloc ?_ | refine Gr.drew ?_ | refine Gr.trans ?_ (by assumption)))); rintro e w4 ⟨rfl, hg4⟩)))
          all_goals go_wp2
          all_goals go_ret
          all_goals exact ⟨rfl, (by repeat (first | exact Gr.refl _ | refine Gr.alloc ?_ | refine Gr.drew ?_ | refine Gr.trans ?_ (by assumption)))⟩

set_option maxRecDepth 100000 in
theorem identCmps_lifted (os : Os) (started : os.Started) (H : Type) (enc : TypeId × Value → H) :
    ReturnsInHanded {} Tryd.checked os 5 .any (fun w args => (Rows.identCmpsSpec.pre enc Tryd.prog Tryd.f5 [] false w args ∧ laidMetH Tryd.prog laidL w) ∧ sizedMet enc Tryd.prog Tryd.f5 (OpenSpec.ofChange Rows.identCmpsSpec) false w args)
      (Rows.identCmpsSpec.post enc Tryd.prog Tryd.f5 false true false false) := by
  refine returnsInHanded_of_change_and (C := Tryd.checked) (X := fun w _ => laidMetH Tryd.prog laidL w) (fun _ _ _ hh h => h.of_heap hh) own2 started (by kernel_rfl) Tryd.func5
    (ChangeSpec.witness_shaped (enc := enc) (C := Tryd.checked) (os := os) (X := fun w _ => laidMetH Tryd.prog laidL w) false (World.doorLaid Tryd.prog 400 os) #[.agg #[.int .i64 0, .int .i64 0, .slice none 0 0], .slice none 0 0] 8 rfl (World.shaped_of_RefB (by kernel_rfl) (by kernel_rfl)) (by kernel_rfl) (by kernel_rfl) (by kernel_rfl) (door_met os _)) ?_
  intro W base args ds gs before hval0 hW _ hsz0 hL _
  have hval : ∀ (j : Nat) t v, Tryd.f5.params[j]? = some t → args[j]? = some v → Value.okWide Tryd.prog W .any base t v := hval0
  have hsz : (DataW.weightsEach Tryd.prog (Tryd.f5.params.toList ++ Rows.identCmpsSpec.plain.varTypes Tryd.prog) (ds ++ gs)).all (· ≤ reachBytes) = true := hsz0
  have hW' := hW
  obtain ⟨p, q, hA0, hV, rfl, hfz, hnd⟩ := hW
  have hA : DataW.TrodAll enc Tryd.prog W 0 (fun _ => true) true Tryd.f5.params.toList args.toList ds p := hA0
  rw [Tryd.params5] at hA hval hsz
  obtain ⟨v0, v1, d0, d1, p0, p1, rfl, rfl, rfl, h0, h1⟩ := trodAll_two hA
  obtain ⟨rfl, rfl⟩ := trodVars_none hV
  have k0 := h0
  have lt0 : ∀ x ∈ p0, x.block < W.heap.size := by obtain ⟨m, hm⟩ := k0; exact DataW.trod_lt m _ _ _ hm
  have k1 := h1
  have lt1 : ∀ x ∈ p1, x.block < W.heap.size := by obtain ⟨m, hm⟩ := k1; exact DataW.trod_lt m _ _ _ hm
  obtain ⟨r0, n0, ad0, cap0, L0, rfl, hL0, hn0, hc0, hz0⟩ := open_id (hval 0 24 v0 rfl rfl) h0
  obtain ⟨ad1, cap1, T1, rfl, hT1, hm1⟩ := open_ids (hval 1 42 v1 rfl rfl) h1
  clear hA0 hval0
  have hT := env_of_laid hL
  refine (identCmps_walk r0 n0 L0 ad0 cap0 T1 ad1 cap1 W hT hL0 hT1 hn0 hc0 hm1).mono fun e W' ⟨he, hg⟩ => ?_
  subst he
  exact ⟨_, rfl, _, _, _, [], _, [], hW', trodAll_mk1 (shut_bool Tryd.underlying4 _), trodAll_mk2 (Below.trod laidOut2 (by kernel_rfl) (of_decide_eq_true (by kernel_rfl)) k0 hg.below lt0) (Below.trod laidOut2 (by kernel_rfl) (of_decide_eq_true (by kernel_rfl)) k1 hg.below lt1), rfl, hg.below.frame _, fun h => by cases h⟩

theorem identCmps_holds : Rows.IdentCmpsSaid :=
  OpenClaim.holds_of_wide 5 Tryd.f5 rfl rfl rfl rfl rfl rfl rfl ⟨rfl, rfl, rfl, rfl, rfl⟩ rfl rfl rfl rfl rfl (by kernel_rfl) Tryd.func5 (by kernel_rfl)
    (of_decide_eq_true (by kernel_rfl)) (by unfold Func.isWrapper; first | (rw [if_pos (by decide +kernel)]; kernel_rfl) | (rw [if_neg (by decide +kernel)]; exact ⟨rfl, rfl⟩))
    (fun os started H enc _ => identCmps_lifted os started H enc)

theorem identCmps_card_holds : Rows.IdentCmpsCardSaid :=
  Claim7.holds_tied_plain_at .later [] [.data, .data, .data, .sentinel, .sentinel] true (true, "277e6cc14f7401a6a9a1c21fe2b51decf720abce8c863ec0bbe33a0b21fb3711") true
    identCmps_holds (fun _ h => by cases h) (by kernel_rfl) (fun _ h => by cases h) identCmps_row_tie rfl ⟨rfl, rfl⟩ (by kernel_rfl) rfl
    (fun f fn hf hfn => by
      obtain rfl : f = 5 := Option.some.inj ((show Tryd.prog.funcNamed "entente/ententelaw03.IdentCmps" = some 5 by kernel_rfl).symm.trans hf) |>.symm
      obtain rfl : fn = Tryd.f5 := (Option.some.inj (Tryd.func5.symm.trans hfn)).symm
      exact ⟨by kernel_rfl, fun j t ht => by
        rw [Tryd.params5] at ht
        have hm : t ∈ [24, 42] := by simpa using Array.mem_of_getElem? ht
        have hall : ([24, 42].all fun u => !Tryd.prog.wantsStandIn u) = true := by kernel_rfl
        exact (show Tryd.prog.wantsStandIn t = false by simpa using List.all_eq_true.1 hall t hm)⟩)
    (by kernel_rfl)
end Go.Proofs.YtmidlcipbpchgaaDoor
