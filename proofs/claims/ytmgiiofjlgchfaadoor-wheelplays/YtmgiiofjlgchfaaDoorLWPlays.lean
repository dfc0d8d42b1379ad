
/- For every time and every row of calls: a wheel under them answers as the document's does (WheelPlays, P12.1 to P12.4); no condition. -/
import Derived.Test.YtmgiiofjlgchfaaDoorWpG
namespace Go.Proofs.YtmgiiofjlgchfaaDoor
open Go.ChangeShapes Go.WideShapes Go.ChangeAt Go.RowKit
open Go.ChangeMaps (open_string shut_string)
set_option maxHeartbeats 4000000 in
set_option maxRecDepth 100000 in
theorem plays_l1 (a : Int) (T : List Ac) (ad : Option Addr) (cap : Nat) (w : World) (hT : Tb w) (hR : RowAt acf w ad T) (hn : T.length ≤ 9223372036854775807) (h1 : fewB T = false) :
    Calls Tryd.prog 3 #[.int .i64 a, .slice ad T.length cap] w fun e w' => e = .returned (.bool true) ∧ Gr w w' := by
  have HAw := Lib.hid (awake_any w hT)
  have HF := Lib.hid (few_any T ad cap w hR hn)
  rw [h1] at HF
  clear hT hR h1
  go_enter Tryd.func3, Tryd.ntmps3
  go_wp2_with fail
  refine HF.out.mono ?_
  rintro e w' ⟨rfl, hw⟩
  obtain rfl := hw.symm
  clear hw HF
  go_wp2_with (go_at_call 8; refine HAw.out.mono ?_; rintro e w2 ⟨rfl, hg2⟩)
  go_ret
  exact ⟨rfl, hg2⟩
set_option maxHeartbeats 4000000 in
set_option maxRecDepth 100000 in
theorem plays_l2 (a : Int) (T : List Ac) (ad : Option Addr) (cap : Nat) (w : World) (hT : Tb w) (hR : RowAt acf w ad T) (hn : T.length ≤ 9223372036854775807) (h1 : fewB T = true) (h2 : a < 0 ∨ 1000000000 < a) :
    Calls Tryd.prog 3 #[.int .i64 a, .slice ad T.length cap] w fun e w' => e = .returned (.bool true) ∧ Gr w w' := by
  have HAw := Lib.hid (awake_any w hT)
  have HF := Lib.hid (few_any T ad cap w hR hn)
  rw [h1] at HF
  have HN := Lib.hid (new_no a w h2)
  have HM := Lib.hid (rnew_no a w h2)
  clear hT hR h1 h2
  go_enter Tryd.func3, Tryd.ntmps3
  go_wp2_with fail
  refine HF.out.mono ?_
  rintro e w' ⟨rfl, hw⟩
  obtain rfl := hw.symm
  clear hw HF
  go_wp2_with fail
  refine HN.out.mono ?_
  rintro e w' ⟨rfl, hw⟩
  obtain rfl := hw.symm
  clear hw HN
  go_wp2_with fail
  refine HM.out.mono ?_
  rintro e w' ⟨rfl, hw⟩
  obtain rfl := hw.symm
  clear hw HM
  go_wp2
  go_loop [9] (fun i => i = .int .i64 0) (fun _ => 0)
  case atStart => rfl
  case round =>
    obtain rfl := hrel
    by_cases hl : (0 : Int) < (T.length : Int)
    · go_wp2_with (go_at_call 8; refine HAw.out.mono ?_; rintro e w2 ⟨rfl, hg2⟩)
      go_ret
      exact ⟨rfl, hg2⟩
    · go_wp2_with (go_at_call 8; refine HAw.out.mono ?_; rintro e w2 ⟨rfl, hg2⟩)
      go_ret
      exact ⟨rfl, hg2⟩
theorem wheelPlays_walk (a : Int) (T : List Ac) (ad : Option Addr) (cap : Nat) (w : World) (hT : Tb w) (_ha : -9223372036854775808 ≤ a ∧ a ≤ 9223372036854775807) (hR : RowAt acf w ad T) (hn : T.length ≤ 9223372036854775807) (hi : ∀ t ∈ T, inAc t) :
    Calls Tryd.prog 3 #[.int .i64 a, .slice ad T.length cap] w fun e w' => e = .returned (.bool true) ∧ Gr w w' := by
  cases h1 : fewB T with
  | false => exact plays_l1 a T ad cap w hT hR hn h1
  | true =>
    by_cases h2 : a < 0 ∨ 1000000000 < a
    · exact plays_l2 a T ad cap w hT hR hn h1 h2
    · obtain ⟨t, rfl⟩ : ∃ t : Nat, a = (t : Int) := ⟨a.toNat, by omega⟩
      exact plays_main t T ad cap w hT hR (by omega) hn hi h1

set_option maxRecDepth 100000 in
theorem wheelPlays_lifted (os : Os) (started : os.Started) (H : Type) (enc : TypeId × Value → H) :
    ReturnsInHanded {} Tryd.checked os 3 .any (fun w args => (Rows.wheelPlaysSpec.pre enc Tryd.prog Tryd.f3 [] false w args ∧ laidMetH Tryd.prog laidL w) ∧ sizedMet enc Tryd.prog Tryd.f3 (OpenSpec.ofChange Rows.wheelPlaysSpec) false w args)
      (Rows.wheelPlaysSpec.post enc Tryd.prog Tryd.f3 false true false false) := by
  refine returnsInHanded_of_change_and (C := Tryd.checked) (X := fun w _ => laidMetH Tryd.prog laidL w) (fun _ _ _ hh h => h.of_heap hh) own2 started (by kernel_rfl) Tryd.func3
    (ChangeSpec.witness_shaped (enc := enc) (C := Tryd.checked) (os := os) (X := fun w _ => laidMetH Tryd.prog laidL w) false (World.doorLaid Tryd.prog 400 os) #[.int .i64 0, .slice none 0 0] 8 rfl (World.shaped_of_RefB (by kernel_rfl) (by kernel_rfl)) (by kernel_rfl) (by kernel_rfl) (by kernel_rfl) (door_met os _)) ?_
  intro W base args ds gs before hval0 hW _ hsz0 hL _
  have hval : ∀ (j : Nat) t v, Tryd.f3.params[j]? = some t → args[j]? = some v → Value.okWide Tryd.prog W .any base t v := hval0
  have hsz : (DataW.weightsEach Tryd.prog (Tryd.f3.params.toList ++ Rows.wheelPlaysSpec.plain.varTypes Tryd.prog) (ds ++ gs)).all (· ≤ reachBytes) = true := hsz0
  have hW' := hW
  obtain ⟨p, q, hA0, hV, rfl, hfz, hnd⟩ := hW
  have hA : DataW.TrodAll enc Tryd.prog W 0 (fun _ => true) true Tryd.f3.params.toList args.toList ds p := hA0
  rw [Tryd.params3] at hA hval hsz
  obtain ⟨v0, v1, d0, d1, p0, p1, rfl, rfl, rfl, h0, h1⟩ := trodAll_two hA
  obtain ⟨rfl, rfl⟩ := trodVars_none hV
  have k1 := h1
  have lt1 : ∀ x ∈ p1, x.block < W.heap.size := by obtain ⟨m, hm⟩ := k1; exact DataW.trod_lt m _ _ _ hm
  obtain ⟨a0, rfl, rfl, rfl, wa0⟩ := open_int Tryd.underlying3 (hval 0 3 v0 rfl rfl) h0
  obtain ⟨ad1, cap1, T1, rfl, hT1, hn1, hi1⟩ := open_acts (hval 1 22 v1 rfl rfl) h1
  clear hA0 hval0
  have hT := tab_of_laid hL
  refine (wheelPlays_walk a0 T1 ad1 cap1 W hT (rng_i64 wa0) hT1 hn1 hi1).mono fun e W' ⟨he, hg⟩ => ?_
  subst he
  exact ⟨_, rfl, _, _, _, [], _, [], hW', trodAll_mk1 (shut_bool Tryd.underlying4 _), trodAll_mk2 (shut_int Tryd.underlying3 wa0) (Below.trod laidOut2 (by kernel_rfl) (of_decide_eq_true (by kernel_rfl)) k1 hg.below lt1), rfl, hg.below.frame _, fun h => by cases h⟩

theorem wheelPlays_holds : Rows.WheelPlaysSaid :=
  OpenClaim.holds_of_wide 3 Tryd.f3 rfl rfl rfl rfl rfl rfl rfl ⟨rfl, rfl, rfl, rfl, rfl⟩ rfl rfl rfl rfl rfl (by kernel_rfl) Tryd.func3 (by kernel_rfl)
    (of_decide_eq_true (by kernel_rfl)) (by unfold Func.isWrapper; first | (rw [if_pos (by decide +kernel)]; kernel_rfl) | (rw [if_neg (by decide +kernel)]; exact ⟨rfl, rfl⟩))
    (fun os started H enc _ => wheelPlays_lifted os started H enc)

theorem wheelPlays_card_holds : Rows.WheelPlaysCardSaid :=
  Claim7.holds_tied_plain_at .later [] [.data, .data] true (true, "658bdda28c7c0ceb512920beb7b07c6ca2ad740ec9e0eb0ddcfea4622cab6f35") false
    wheelPlays_holds (fun _ h => by cases h) (by kernel_rfl) (fun _ h => by cases h) wheelPlays_row_tie rfl ⟨rfl, rfl⟩ (by kernel_rfl) rfl
    (fun f fn hf hfn => by
      obtain rfl : f = 3 := Option.some.inj ((show Tryd.prog.funcNamed "entente/ententelaw12.WheelPlays" = some 3 by kernel_rfl).symm.trans hf) |>.symm
      obtain rfl : fn = Tryd.f3 := (Option.some.inj (Tryd.func3.symm.trans hfn)).symm
      exact ⟨by kernel_rfl, fun j t ht => by
        rw [Tryd.params3] at ht
        have hm : t ∈ [3, 22] := by simpa using Array.mem_of_getElem? ht
        have hall : ([3, 22].all fun u => !Tryd.prog.wantsStandIn u) = true := by kernel_rfl
        exact (show Tryd.prog.wantsStandIn t = false by simpa using List.all_eq_true.1 hall t hm)⟩)
    (by kernel_rfl)
end Go.Proofs.YtmgiiofjlgchfaaDoor
