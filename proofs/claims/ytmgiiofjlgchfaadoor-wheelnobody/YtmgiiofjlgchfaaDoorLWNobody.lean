
/- For every key and every number: a wheel that is nil, and one that no call made, has no timers and does nothing (WheelNobody, P12.1); no condition. -/
import Derived.Test.YtmgiiofjlgchfaaDoorWhW
import Derived.Test.YtmgiiofjlgchfaaDoorOpenW
namespace Go.Proofs.YtmgiiofjlgchfaaDoor
open Go.ChangeShapes Go.WideShapes Go.ChangeAt Go.RowKit
open Go.ChangeMaps (open_string shut_string)
set_option maxHeartbeats 8000000 in
set_option maxRecDepth 100000 in
theorem wheelNobody_walk (k : ByteArray) (a : Int) (w : World) (hT : Tb w) : Calls Tryd.prog 4 #[.string k, .int .i64 a] w fun e w' => e = .returned (.bool true) ∧ Gr w w' := by
  have HAw : Hid (∀ w', Gr w w' → Calls Tryd.prog 8 #[] w' fun e w2 => e = .returned (.bool true) ∧ Gr w' w2) := fun w' g => awake_any w' (hT.gr g)
  go_enter Tryd.func4, Tryd.ntmps4
  go_wp2
  obtain ⟨w1, hw1⟩ : ∃ w1, w1 = ((w.alloc (.cells Tryd.zeroCells56 56)).alloc (.cells #[.pointer none, .pointer (some ⟨w.heap.size, 0, none⟩)] 25)) := ⟨_, rfl⟩
  rw [← hw1]
  have HG1 : Hid (Gr w w1) := by show Gr w w1; rw [hw1]; exact (Gr.refl _).alloc.alloc
  have HB : Hid (NoW w1 (ptr w.heap.size)) := noW_blank (by rw [hw1, World.cell?_alloc2_first]; kernel_rfl)
  have HC : Hid (w1.cell? ⟨w.heap.size + 1, 0, none⟩ = some (.pointer none) ∧ w1.cell? ⟨w.heap.size + 1, 1, none⟩ = some (ptr w.heap.size)) := by rw [hw1]; exact ⟨by simp, by simp⟩
  have HNl : Hid (NoW w1 (.pointer none)) := noW_nil w1
  clear hw1 hT
  go_loopw [6, 15] (fun _ i wr => (i = .int .i64 0 ∨ i = .int .i64 1 ∨ i = .int .i64 2) ∧ Gr w1 wr) (fun _ i _ => (2 - intOf i).toNat)
  case atStart => exact ⟨Or.inl rfl, Gr.refl _⟩
  case round =>
    obtain ⟨hi, hg⟩ := hrel
    have HG : Hid (Gr w1 wr) := hg
    have hc0 := hg.keep HC.out.1
    have hc1 := hg.keep HC.out.2
    clear hg
    rcases hi with rfl | rfl | rfl
    · have HN := Lib.hid (HNl.out.gr HG.out)
      go_wp2_with (first
        | (go_at_call 19; refine (noSkip HN.out a).mono ?_; rintro e w' ⟨rfl, hw⟩; obtain rfl := hw.symm; clear hw)
        | (go_at_call 21; refine (noAt HN.out k).mono ?_; rintro e w' ⟨rfl, hw⟩; obtain rfl := hw.symm; clear hw)
        | (go_at_call 11; refine (noSet HN.out k a).mono ?_; rintro e w' ⟨rfl, hw⟩; obtain rfl := hw.symm; clear hw)
        | (go_at_call 23; refine (noNow HN.out).mono ?_; rintro e w' ⟨rfl, hw⟩; obtain rfl := hw.symm; clear hw)
        | (go_at_call 14; refine (noDrop HN.out k).mono ?_; rintro e w9 ⟨rfl, hg9⟩; have HN9 := Lib.hid (HN.out.gr hg9); have HG9 := Lib.hid (HG.out.trans hg9); clear hg9)
        | (go_at_call 24; refine (noAll HN9.out).mono ?_; rintro e w' ⟨rfl, hw⟩; obtain rfl := hw.symm; clear hw)
        | (go_at_call 17; refine (noTick HN9.out).mono ?_; rintro e w' ⟨rfl, hw⟩; obtain rfl := hw.symm; clear hw))
      go_roundw
      case rel => exact ⟨Or.inr (Or.inl rfl), HG9.out⟩
      case measure => simp [intOf]
    · have HN := Lib.hid (HB.out.gr HG.out)
      go_wp2_with (first
        | (go_at_call 19; refine (noSkip HN.out a).mono ?_; rintro e w' ⟨rfl, hw⟩; obtain rfl := hw.symm; clear hw)
        | (go_at_call 21; refine (noAt HN.out k).mono ?_; rintro e w' ⟨rfl, hw⟩; obtain rfl := hw.symm; clear hw)
        | (go_at_call 11; refine (noSet HN.out k a).mono ?_; rintro e w' ⟨rfl, hw⟩; obtain rfl := hw.symm; clear hw)
        | (go_at_call 23; refine (noNow HN.out).mono ?_; rintro e w' ⟨rfl, hw⟩; obtain rfl := hw.symm; clear hw)
        | (go_at_call 14; refine (noDrop HN.out k).mono ?_; rintro e w9 ⟨rfl, hg9⟩; have HN9 := Lib.hid (HN.out.gr hg9); have HG9 := Lib.hid (HG.out.trans hg9); clear hg9)
        | (go_at_call 24; refine (noAll HN9.out).mono ?_; rintro e w' ⟨rfl, hw⟩; obtain rfl := hw.symm; clear hw)
        | (go_at_call 17; refine (noTick HN9.out).mono ?_; rintro e w' ⟨rfl, hw⟩; obtain rfl := hw.symm; clear hw))
      go_roundw
      case rel => exact ⟨Or.inr (Or.inr rfl), HG9.out⟩
      case measure => simp [intOf]
    · go_wp2_with (go_at_call 8; refine (HAw.out _ (HG1.out.trans HG.out)).mono ?_; rintro e w2 ⟨rfl, hg2⟩)
      go_ret
      exact ⟨rfl, (HG1.out.trans HG.out).trans hg2⟩

set_option maxRecDepth 100000 in
theorem wheelNobody_lifted (os : Os) (started : os.Started) (H : Type) (enc : TypeId × Value → H) :
    ReturnsInHanded {} Tryd.checked os 4 .any (fun w args => (Rows.wheelNobodySpec.pre enc Tryd.prog Tryd.f4 [] false w args ∧ laidMetH Tryd.prog laidL w) ∧ sizedMet enc Tryd.prog Tryd.f4 (OpenSpec.ofChange Rows.wheelNobodySpec) false w args)
      (Rows.wheelNobodySpec.post enc Tryd.prog Tryd.f4 false true false false) := by
  refine returnsInHanded_of_change_and (C := Tryd.checked) (X := fun w _ => laidMetH Tryd.prog laidL w) (fun _ _ _ hh h => h.of_heap hh) own2 started (by kernel_rfl) Tryd.func4
    (ChangeSpec.witness_shaped (enc := enc) (C := Tryd.checked) (os := os) (X := fun w _ => laidMetH Tryd.prog laidL w) false (World.doorLaid Tryd.prog 400 os) #[.string ⟨#[]⟩, .int .i64 0] 8 rfl (World.shaped_of_RefB (by kernel_rfl) (by kernel_rfl)) (by kernel_rfl) (by kernel_rfl) (by kernel_rfl) (door_met os _)) ?_
  intro W base args ds gs before hval0 hW _ hsz0 hL _
  have hval : ∀ (j : Nat) t v, Tryd.f4.params[j]? = some t → args[j]? = some v → Value.okWide Tryd.prog W .any base t v := hval0
  have hsz : (DataW.weightsEach Tryd.prog (Tryd.f4.params.toList ++ Rows.wheelNobodySpec.plain.varTypes Tryd.prog) (ds ++ gs)).all (· ≤ reachBytes) = true := hsz0
  have hW' := hW
  obtain ⟨p, q, hA0, hV, rfl, hfz, hnd⟩ := hW
  have hA : DataW.TrodAll enc Tryd.prog W 0 (fun _ => true) true Tryd.f4.params.toList args.toList ds p := hA0
  rw [Tryd.params4] at hA hval hsz
  obtain ⟨v0, v1, d0, d1, p0, p1, rfl, rfl, rfl, h0, h1⟩ := trodAll_two hA
  obtain ⟨rfl, rfl⟩ := trodVars_none hV
  obtain ⟨a0, rfl, rfl, rfl, wa0⟩ := open_string Tryd.underlying9 (hval 0 9 v0 rfl rfl) h0
  have hr0 : a0.size ≤ 140737488355328 := by
    have hr := sized_string hsz (j := 0) (t := 9) rfl rfl
    have : a0.data.toList.length = a0.size := by simp
    simp only [reachBytes] at hr
    omega
  obtain ⟨a1, rfl, rfl, rfl, wa1⟩ := open_int Tryd.underlying3 (hval 1 3 v1 rfl rfl) h1
  clear hA0 hval0
  have hT := tab_of_laid hL
  refine (wheelNobody_walk a0 a1 W hT).mono fun e W' ⟨he, hg⟩ => ?_
  subst he
  exact ⟨_, rfl, _, _, _, [], _, [], hW', trodAll_mk1 (shut_bool Tryd.underlying4 _), trodAll_mk2 (shut_string Tryd.underlying9 wa0) (shut_int Tryd.underlying3 wa1), rfl, hg.below.frame _, fun h => by cases h⟩

theorem wheelNobody_holds : Rows.WheelNobodySaid :=
  OpenClaim.holds_of_wide 4 Tryd.f4 rfl rfl rfl rfl rfl rfl rfl ⟨rfl, rfl, rfl, rfl, rfl⟩ rfl rfl rfl rfl rfl (by kernel_rfl) Tryd.func4 (by kernel_rfl)
    (of_decide_eq_true (by kernel_rfl)) (by unfold Func.isWrapper; first | (rw [if_pos (by decide +kernel)]; kernel_rfl) | (rw [if_neg (by decide +kernel)]; exact ⟨rfl, rfl⟩))
    (fun os started H enc _ => wheelNobody_lifted os started H enc)

theorem wheelNobody_card_holds : Rows.WheelNobodyCardSaid :=
  Claim7.holds_tied_plain_at .later [] [.data, .data] true (true, "658bdda28c7c0ceb512920beb7b07c6ca2ad740ec9e0eb0ddcfea4622cab6f35") false
    wheelNobody_holds (fun _ h => by cases h) (by kernel_rfl) (fun _ h => by cases h) wheelNobody_row_tie rfl ⟨rfl, rfl⟩ (by kernel_rfl) rfl
    (fun f fn hf hfn => by
      obtain rfl : f = 4 := Option.some.inj ((show Tryd.prog.funcNamed "entente/ententelaw12.WheelNobody" = some 4 by kernel_rfl).symm.trans hf) |>.symm
      obtain rfl : fn = Tryd.f4 := (Option.some.inj (Tryd.func4.symm.trans hfn)).symm
      exact ⟨by kernel_rfl, fun j t ht => by
        rw [Tryd.params4] at ht
        have hm : t ∈ [9, 3] := by simpa using Array.mem_of_getElem? ht
        have hall : ([9, 3].all fun u => !Tryd.prog.wantsStandIn u) = true := by kernel_rfl
        exact (show Tryd.prog.wantsStandIn t = false by simpa using List.all_eq_true.1 hall t hm)⟩)
    (by kernel_rfl)
end Go.Proofs.YtmgiiofjlgchfaaDoor
