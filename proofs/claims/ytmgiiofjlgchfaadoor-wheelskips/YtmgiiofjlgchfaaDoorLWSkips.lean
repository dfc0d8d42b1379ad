
/- For every time, every row of calls and every two numbers: to go on by some and then by more is to go on by both together, and all timers are what comes from now on (WheelSkips, P12.6); no condition. -/
import Derived.Test.YtmgiiofjlgchfaaDoorWSkM
namespace Go.Proofs.YtmgiiofjlgchfaaDoor
open Go.ChangeShapes Go.WideShapes Go.ChangeAt Go.RowKit
open Go.ChangeMaps (open_string shut_string)
set_option maxHeartbeats 4000000 in
set_option maxRecDepth 100000 in
theorem skips_l1 (a x y : Int) (T : List Ac) (ad : Option Addr) (cap : Nat) (w : World) (hT : Tb w) (hR : RowAt acf w ad T) (hn : T.length ≤ 9223372036854775807) (h1 : a < 0) :
    Calls Tryd.prog 6 #[.int .i64 a, .slice ad T.length cap, .agg #[.int .i64 x, .int .i64 y]] w fun e w' => e = .returned (.bool true) ∧ Gr w w' := by
  have HAw : Hid (∀ w', Gr w w' → Calls Tryd.prog 8 #[] w' fun e w2 => e = .returned (.bool true) ∧ Gr w' w2) := fun w' g => awake_any w' (hT.gr g)
  have HF := Lib.hid (few_any T ad cap (w.alloc (.cells #[.int .i64 x, .int .i64 y] 62)) (hR.gr (Gr.refl w).alloc) hn)
  clear hT hR
  go_enter Tryd.func6, Tryd.ntmps6
  go_wp2_with (first
    | (go_at_call 8; refine (HAw.out _ (Gr.refl w).alloc).mono ?_; rintro e w2 ⟨rfl, hg2⟩))
  go_ret
  exact ⟨rfl, (Gr.refl w).alloc.trans hg2⟩
set_option maxHeartbeats 4000000 in
set_option maxRecDepth 100000 in
theorem skips_l2 (a x y : Int) (T : List Ac) (ad : Option Addr) (cap : Nat) (w : World) (hT : Tb w) (hR : RowAt acf w ad T) (hn : T.length ≤ 9223372036854775807) (h0 : ¬ a < 0) (h1 : 999000000 < a) :
    Calls Tryd.prog 6 #[.int .i64 a, .slice ad T.length cap, .agg #[.int .i64 x, .int .i64 y]] w fun e w' => e = .returned (.bool true) ∧ Gr w w' := by
  have HAw : Hid (∀ w', Gr w w' → Calls Tryd.prog 8 #[] w' fun e w2 => e = .returned (.bool true) ∧ Gr w' w2) := fun w' g => awake_any w' (hT.gr g)
  have HF := Lib.hid (few_any T ad cap (w.alloc (.cells #[.int .i64 x, .int .i64 y] 62)) (hR.gr (Gr.refl w).alloc) hn)
  clear hT hR
  go_enter Tryd.func6, Tryd.ntmps6
  go_wp2_with (first
    | (go_at_call 8; refine (HAw.out _ (Gr.refl w).alloc).mono ?_; rintro e w2 ⟨rfl, hg2⟩))
  go_ret
  exact ⟨rfl, (Gr.refl w).alloc.trans hg2⟩
set_option maxHeartbeats 4000000 in
set_option maxRecDepth 100000 in
theorem skips_l3 (a x y : Int) (T : List Ac) (ad : Option Addr) (cap : Nat) (w : World) (hT : Tb w) (hR : RowAt acf w ad T) (hn : T.length ≤ 9223372036854775807) (h0 : ¬ a < 0) (h1 : ¬ 999000000 < a) (h2 : (100 : Int) < (T.length : Int)) :
    Calls Tryd.prog 6 #[.int .i64 a, .slice ad T.length cap, .agg #[.int .i64 x, .int .i64 y]] w fun e w' => e = .returned (.bool true) ∧ Gr w w' := by
  have HAw : Hid (∀ w', Gr w w' → Calls Tryd.prog 8 #[] w' fun e w2 => e = .returned (.bool true) ∧ Gr w' w2) := fun w' g => awake_any w' (hT.gr g)
  have HF := Lib.hid (few_any T ad cap (w.alloc (.cells #[.int .i64 x, .int .i64 y] 62)) (hR.gr (Gr.refl w).alloc) hn)
  clear hT hR
  go_enter Tryd.func6, Tryd.ntmps6
  go_wp2_with (first
    | (go_at_call 8; refine (HAw.out _ (Gr.refl w).alloc).mono ?_; rintro e w2 ⟨rfl, hg2⟩))
  go_ret
  exact ⟨rfl, (Gr.refl w).alloc.trans hg2⟩
set_option maxHeartbeats 4000000 in
set_option maxRecDepth 100000 in
theorem skips_l4 (a x y : Int) (T : List Ac) (ad : Option Addr) (cap : Nat) (w : World) (hT : Tb w) (hR : RowAt acf w ad T) (hn : T.length ≤ 9223372036854775807) (h0 : ¬ a < 0) (h1 : ¬ 999000000 < a) (h2 : ¬ (100 : Int) < (T.length : Int)) (h3 : fewB T = false) :
    Calls Tryd.prog 6 #[.int .i64 a, .slice ad T.length cap, .agg #[.int .i64 x, .int .i64 y]] w fun e w' => e = .returned (.bool true) ∧ Gr w w' := by
  have HAw : Hid (∀ w', Gr w w' → Calls Tryd.prog 8 #[] w' fun e w2 => e = .returned (.bool true) ∧ Gr w' w2) := fun w' g => awake_any w' (hT.gr g)
  have HF := Lib.hid (few_any T ad cap (w.alloc (.cells #[.int .i64 x, .int .i64 y] 62)) (hR.gr (Gr.refl w).alloc) hn)
  rw [h3] at HF
  clear hT hR
  go_enter Tryd.func6, Tryd.ntmps6
  go_wp2_with (first
    | (go_at_call 7; refine HF.out.mono ?_; rintro e w' ⟨rfl, rfl⟩)
    | (go_at_call 8; refine (HAw.out _ (Gr.refl w).alloc).mono ?_; rintro e w2 ⟨rfl, hg2⟩))
  go_ret
  exact ⟨rfl, (Gr.refl w).alloc.trans hg2⟩
set_option maxHeartbeats 4000000 in
set_option maxRecDepth 100000 in
theorem skips_l5 (a x y : Int) (T : List Ac) (ad : Option Addr) (cap : Nat) (w : World) (hT : Tb w) (hR : RowAt acf w ad T) (hn : T.length ≤ 9223372036854775807) (h0 : ¬ a < 0) (h1 : ¬ 999000000 < a) (h2 : ¬ (100 : Int) < (T.length : Int)) (h3 : fewB T = true) (h4 : x < 0) :
    Calls Tryd.prog 6 #[.int .i64 a, .slice ad T.length cap, .agg #[.int .i64 x, .int .i64 y]] w fun e w' => e = .returned (.bool true) ∧ Gr w w' := by
  have HAw : Hid (∀ w', Gr w w' → Calls Tryd.prog 8 #[] w' fun e w2 => e = .returned (.bool true) ∧ Gr w' w2) := fun w' g => awake_any w' (hT.gr g)
  have HF := Lib.hid (few_any T ad cap (w.alloc (.cells #[.int .i64 x, .int .i64 y] 62)) (hR.gr (Gr.refl w).alloc) hn)
  rw [h3] at HF
  clear hT hR
  go_enter Tryd.func6, Tryd.ntmps6
  go_wp2_with (first
    | (go_at_call 7; refine HF.out.mono ?_; rintro e w' ⟨rfl, rfl⟩)
    | (go_at_call 8; refine (HAw.out _ (Gr.refl w).alloc).mono ?_; rintro e w2 ⟨rfl, hg2⟩))
  go_ret
  exact ⟨rfl, (Gr.refl w).alloc.trans hg2⟩
set_option maxHeartbeats 4000000 in
set_option maxRecDepth 100000 in
theorem skips_l6 (a x y : Int) (T : List Ac) (ad : Option Addr) (cap : Nat) (w : World) (hT : Tb w) (hR : RowAt acf w ad T) (hn : T.length ≤ 9223372036854775807) (h0 : ¬ a < 0) (h1 : ¬ 999000000 < a) (h2 : ¬ (100 : Int) < (T.length : Int)) (h3 : fewB T = true) (h4 : ¬ x < 0) (h5 : y < 0) :
    Calls Tryd.prog 6 #[.int .i64 a, .slice ad T.length cap, .agg #[.int .i64 x, .int .i64 y]] w fun e w' => e = .returned (.bool true) ∧ Gr w w' := by
  have HAw : Hid (∀ w', Gr w w' → Calls Tryd.prog 8 #[] w' fun e w2 => e = .returned (.bool true) ∧ Gr w' w2) := fun w' g => awake_any w' (hT.gr g)
  have HF := Lib.hid (few_any T ad cap (w.alloc (.cells #[.int .i64 x, .int .i64 y] 62)) (hR.gr (Gr.refl w).alloc) hn)
  rw [h3] at HF
  clear hT hR
  go_enter Tryd.func6, Tryd.ntmps6
  go_wp2_with (first
    | (go_at_call 7; refine HF.out.mono ?_; rintro e w' ⟨rfl, rfl⟩)
    | (go_at_call 8; refine (HAw.out _ (Gr.refl w).alloc).mono ?_; rintro e w2 ⟨rfl, hg2⟩))
  go_ret
  exact ⟨rfl, (Gr.refl w).alloc.trans hg2⟩
set_option maxHeartbeats 4000000 in
set_option maxRecDepth 100000 in
theorem skips_l7 (a x y : Int) (T : List Ac) (ad : Option Addr) (cap : Nat) (w : World) (hT : Tb w) (hR : RowAt acf w ad T) (hn : T.length ≤ 9223372036854775807) (h0 : ¬ a < 0) (h1 : ¬ 999000000 < a) (h2 : ¬ (100 : Int) < (T.length : Int)) (h3 : fewB T = true) (h4 : ¬ x < 0) (h5 : ¬ y < 0) (h6 : 40000 < x) :
    Calls Tryd.prog 6 #[.int .i64 a, .slice ad T.length cap, .agg #[.int .i64 x, .int .i64 y]] w fun e w' => e = .returned (.bool true) ∧ Gr w w' := by
  have HAw : Hid (∀ w', Gr w w' → Calls Tryd.prog 8 #[] w' fun e w2 => e = .returned (.bool true) ∧ Gr w' w2) := fun w' g => awake_any w' (hT.gr g)
  have HF := Lib.hid (few_any T ad cap (w.alloc (.cells #[.int .i64 x, .int .i64 y] 62)) (hR.gr (Gr.refl w).alloc) hn)
  rw [h3] at HF
  clear hT hR
  go_enter Tryd.func6, Tryd.ntmps6
  go_wp2_with (first
    | (go_at_call 7; refine HF.out.mono ?_; rintro e w' ⟨rfl, rfl⟩)
    | (go_at_call 8; refine (HAw.out _ (Gr.refl w).alloc).mono ?_; rintro e w2 ⟨rfl, hg2⟩))
  go_ret
  exact ⟨rfl, (Gr.refl w).alloc.trans hg2⟩
set_option maxHeartbeats 4000000 in
set_option maxRecDepth 100000 in
theorem skips_l8 (a x y : Int) (T : List Ac) (ad : Option Addr) (cap : Nat) (w : World) (hT : Tb w) (hR : RowAt acf w ad T) (hn : T.length ≤ 9223372036854775807) (h0 : ¬ a < 0) (h1 : ¬ 999000000 < a) (h2 : ¬ (100 : Int) < (T.length : Int)) (h3 : fewB T = true) (h4 : ¬ x < 0) (h5 : ¬ y < 0) (h6 : ¬ 40000 < x) (h7 : 40000 < y) :
    Calls Tryd.prog 6 #[.int .i64 a, .slice ad T.length cap, .agg #[.int .i64 x, .int .i64 y]] w fun e w' => e = .returned (.bool true) ∧ Gr w w' := by
  have HAw : Hid (∀ w', Gr w w' → Calls Tryd.prog 8 #[] w' fun e w2 => e = .returned (.bool true) ∧ Gr w' w2) := fun w' g => awake_any w' (hT.gr g)
  have HF := Lib.hid (few_any T ad cap (w.alloc (.cells #[.int .i64 x, .int .i64 y] 62)) (hR.gr (Gr.refl w).alloc) hn)
  rw [h3] at HF
  clear hT hR
  go_enter Tryd.func6, Tryd.ntmps6
  go_wp2_with (first
    | (go_at_call 7; refine HF.out.mono ?_; rintro e w' ⟨rfl, rfl⟩)
    | (go_at_call 8; refine (HAw.out _ (Gr.refl w).alloc).mono ?_; rintro e w2 ⟨rfl, hg2⟩))
  go_ret
  exact ⟨rfl, (Gr.refl w).alloc.trans hg2⟩
theorem wheelSkips_walk (a : Int) (T : List Ac) (ad : Option Addr) (cap : Nat) (x y : Int) (w : World) (hT : Tb w) (hR : RowAt acf w ad T) (hn : T.length ≤ 9223372036854775807) (_hi : ∀ t ∈ T, inAc t) :
    Calls Tryd.prog 6 #[.int .i64 a, .slice ad T.length cap, .agg #[.int .i64 x, .int .i64 y]] w fun e w' => e = .returned (.bool true) ∧ Gr w w' := by
  by_cases h0 : a < 0
  · exact skips_l1 a x y T ad cap w hT hR hn h0
  by_cases h1 : 999000000 < a
  · exact skips_l2 a x y T ad cap w hT hR hn h0 h1
  by_cases h2 : (100 : Int) < (T.length : Int)
  · exact skips_l3 a x y T ad cap w hT hR hn h0 h1 h2
  cases h3 : fewB T with
  | false => exact skips_l4 a x y T ad cap w hT hR hn h0 h1 h2 h3
  | true =>
    by_cases h4 : x < 0
    · exact skips_l5 a x y T ad cap w hT hR hn h0 h1 h2 h3 h4
    by_cases h5 : y < 0
    · exact skips_l6 a x y T ad cap w hT hR hn h0 h1 h2 h3 h4 h5
    by_cases h6 : 40000 < x
    · exact skips_l7 a x y T ad cap w hT hR hn h0 h1 h2 h3 h4 h5 h6
    by_cases h7 : 40000 < y
    · exact skips_l8 a x y T ad cap w hT hR hn h0 h1 h2 h3 h4 h5 h6 h7
    obtain ⟨t, rfl⟩ : ∃ t : Nat, a = (t : Int) := ⟨a.toNat, by omega⟩
    obtain ⟨p, rfl⟩ : ∃ p : Nat, x = (p : Int) := ⟨x.toNat, by omega⟩
    obtain ⟨q, rfl⟩ : ∃ q : Nat, y = (q : Int) := ⟨y.toNat, by omega⟩
    have hf := few_any T ad cap (w.alloc (.cells #[.int .i64 (p : Int), .int .i64 (q : Int)] 62)) (hR.gr (Gr.refl w).alloc) hn
    rw [h3] at hf
    exact skips_main t p q T ad cap w hT hR (by omega) (by omega) (by omega) (by omega) hf

set_option maxRecDepth 100000 in
theorem wheelSkips_lifted (os : Os) (started : os.Started) (H : Type) (enc : TypeId × Value → H) :
    ReturnsInHanded {} Tryd.checked os 6 .any (fun w args => (Rows.wheelSkipsSpec.pre enc Tryd.prog Tryd.f6 [] false w args ∧ laidMetH Tryd.prog laidL w) ∧ sizedMet enc Tryd.prog Tryd.f6 (OpenSpec.ofChange Rows.wheelSkipsSpec) false w args)
      (Rows.wheelSkipsSpec.post enc Tryd.prog Tryd.f6 false true false false) := by
  refine returnsInHanded_of_change_and (C := Tryd.checked) (X := fun w _ => laidMetH Tryd.prog laidL w) (fun _ _ _ hh h => h.of_heap hh) own2 started (by kernel_rfl) Tryd.func6
    (ChangeSpec.witness_shaped (enc := enc) (C := Tryd.checked) (os := os) (X := fun w _ => laidMetH Tryd.prog laidL w) false (World.doorLaid Tryd.prog 400 os) #[.int .i64 0, .slice none 0 0, .agg #[.int .i64 0, .int .i64 0]] 8 rfl (World.shaped_of_RefB (by kernel_rfl) (by kernel_rfl)) (by kernel_rfl) (by kernel_rfl) (by kernel_rfl) (door_met os _)) ?_
  intro W base args ds gs before hval0 hW _ hsz0 hL _
  have hval : ∀ (j : Nat) t v, Tryd.f6.params[j]? = some t → args[j]? = some v → Value.okWide Tryd.prog W .any base t v := hval0
  have hsz : (DataW.weightsEach Tryd.prog (Tryd.f6.params.toList ++ Rows.wheelSkipsSpec.plain.varTypes Tryd.prog) (ds ++ gs)).all (· ≤ reachBytes) = true := hsz0
  have hW' := hW
  obtain ⟨p, q, hA0, hV, rfl, hfz, hnd⟩ := hW
  have hA : DataW.TrodAll enc Tryd.prog W 0 (fun _ => true) true Tryd.f6.params.toList args.toList ds p := hA0
  rw [Tryd.params6] at hA hval hsz
  obtain ⟨v0, v1, v2, d0, d1, d2, p0, p1, p2, rfl, rfl, rfl, h0, h1, h2⟩ := trodAll_three hA
  obtain ⟨rfl, rfl⟩ := trodVars_none hV
  have k1 := h1
  have lt1 : ∀ x ∈ p1, x.block < W.heap.size := by obtain ⟨m, hm⟩ := k1; exact DataW.trod_lt m _ _ _ hm
  have k2 := h2
  have lt2 : ∀ x ∈ p2, x.block < W.heap.size := by obtain ⟨m, hm⟩ := k2; exact DataW.trod_lt m _ _ _ hm
  obtain ⟨a0, rfl, rfl, rfl, wa0⟩ := open_int Tryd.underlying3 (hval 0 3 v0 rfl rfl) h0
  obtain ⟨ad1, cap1, T1, rfl, hT1, hn1, hi1⟩ := open_acts (hval 1 22 v1 rfl rfl) h1
  obtain ⟨x2, y2, rfl, hi2⟩ := open_a2 (hval 2 62 v2 rfl rfl) h2
  clear hA0 hval0
  have hT := tab_of_laid hL
  refine (wheelSkips_walk a0 T1 ad1 cap1 x2 y2 W hT hT1 hn1 hi1).mono fun e W' ⟨he, hg⟩ => ?_
  subst he
  exact ⟨_, rfl, _, _, _, [], _, [], hW', trodAll_mk1 (shut_bool Tryd.underlying4 _), trodAll_mk3 (shut_int Tryd.underlying3 wa0) (Below.trod laidOut2 (by kernel_rfl) (of_decide_eq_true (by kernel_rfl)) k1 hg.below lt1) (Below.trod laidOut2 (by kernel_rfl) (of_decide_eq_true (by kernel_rfl)) k2 hg.below lt2), rfl, hg.below.frame _, fun h => by cases h⟩

theorem wheelSkips_holds : Rows.WheelSkipsSaid :=
  OpenClaim.holds_of_wide 6 Tryd.f6 rfl rfl rfl rfl rfl rfl rfl ⟨rfl, rfl, rfl, rfl, rfl⟩ rfl rfl rfl rfl rfl (by kernel_rfl) Tryd.func6 (by kernel_rfl)
    (of_decide_eq_true (by kernel_rfl)) (by unfold Func.isWrapper; first | (rw [if_pos (by decide +kernel)]; kernel_rfl) | (rw [if_neg (by decide +kernel)]; exact ⟨rfl, rfl⟩))
    (fun os started H enc _ => wheelSkips_lifted os started H enc)

theorem wheelSkips_card_holds : Rows.WheelSkipsCardSaid :=
  Claim7.holds_tied_plain_at .later [] [.data, .data] true (true, "658bdda28c7c0ceb512920beb7b07c6ca2ad740ec9e0eb0ddcfea4622cab6f35") false
    wheelSkips_holds (fun _ h => by cases h) (by kernel_rfl) (fun _ h => by cases h) wheelSkips_row_tie rfl ⟨rfl, rfl⟩ (by kernel_rfl) rfl
    (fun f fn hf hfn => by
      obtain rfl : f = 6 := Option.some.inj ((show Tryd.prog.funcNamed "entente/ententelaw12.WheelSkips" = some 6 by kernel_rfl).symm.trans hf) |>.symm
      obtain rfl : fn = Tryd.f6 := (Option.some.inj (Tryd.func6.symm.trans hfn)).symm
      exact ⟨by kernel_rfl, fun j t ht => by
        rw [Tryd.params6] at ht
        have hm : t ∈ [3, 22, 62] := by simpa using Array.mem_of_getElem? ht
        have hall : ([3, 22, 62].all fun u => !Tryd.prog.wantsStandIn u) = true := by kernel_rfl
        exact (show Tryd.prog.wantsStandIn t = false by simpa using List.all_eq_true.1 hall t hm)⟩)
    (by kernel_rfl)
end Go.Proofs.YtmgiiofjlgchfaaDoor
