/- For every input the law IdentChecks answers true: any id may be, or not, and says its path, as the document says. -/
import Derived.Test.YtecpppppadoppaaDoorLaidR
import Derived.Test.YtecpppppadoppaaDoorOpenI
import Derived.Test.YtecpppppadoppaaDoorAwk3
import Derived.Test.YtecpppppadoppaaDoorRPathP
import Derived.Test.YtecpppppadoppaaDoorFewP
import Derived.SevenTiedAt
namespace Go.Proofs.YtecpppppadoppaaDoor
open Go.ChangeShapes Go.WideShapes Go.ChangeAt Go.RowKit
open Go.ChangeMaps (open_string shut_string)

set_option maxHeartbeats 20000000 in
set_option maxRecDepth 100000 in
theorem identChecks_walk (r n : Int) (L : List (Int × Int)) (ad : Option Addr) (cap : Nat) (w : World) (he : Env w) (hL : HopsAt w ad L) (hn : L.length ≤ 9223372036854775807) :
    Calls Tryd.prog 3 #[.agg #[.int .i64 r, .int .i64 n, .slice ad L.length cap]] w fun e w' => e = .returned (.bool true) ∧ Gr w w' := by
  have HA : Hid (∀ w', Gr w w' → Calls Tryd.prog 16 #[] w' fun e w2 => e = .returned (.bool true) ∧ Gr w' w2) := fun w' g => awake_any w' (he.gr g)
  have H1 : Hid (∀ w', Gr w w' → Calls Tryd.prog 9 #[.agg #[.int .i64 r, .int .i64 n, .slice ad L.length cap]] w' fun e w2 => e = .returned (.int .i64 (errB (Idn.mayB r n L))) ∧ Gr w' w2) := fun w' g => check_any r n L ad cap w' (hL.gr g) hn
  have H2 : Hid (∀ w', Gr w w' → Calls Tryd.prog 10 #[.agg #[.int .i64 r, .int .i64 n, .slice ad L.length cap]] w' fun e w2 => e = .returned (.int .i64 (errB (Idn.mayB r n L))) ∧ Gr w' w2) := fun w' g => refCheck_any r n L ad cap w' (hL.gr g) hn
  have H3 : Hid (∀ w', Gr w w' → Calls Tryd.prog 11 #[.agg #[.int .i64 r, .int .i64 n, .slice ad L.length cap]] w' fun e w2 => e = .returned (.int .i64 (orgE r n L)) ∧ Gr w' w2) := fun w' g => org_any r n L ad cap w' (hL.gr g) hn
  have H4 : Hid (∀ w', Gr w w' → Calls Tryd.prog 12 #[.agg #[.int .i64 r, .int .i64 n, .slice ad L.length cap]] w' fun e w2 => e = .returned (.int .i64 (orgE r n L)) ∧ Gr w' w2) := fun w' g => refOrg_any r n L ad cap w' (hL.gr g) hn
  have H5 : Hid (∀ w', Gr w w' → Calls Tryd.prog 14 #[.agg #[.int .i64 r, .int .i64 n, .slice ad L.length cap]] w' fun e w2 => ∃ ad2 cap2, e = .returned (.slice ad2 (pathE r n L).length cap2) ∧ (pathE r n L).length ≤ cap2 ∧ IntsAt w2 ad2 (pathE r n L) ∧ Gr w' w2) := fun w' g => path_any r n L ad cap w' (hL.gr g) hn
  have H6 : Hid (∀ w', Gr w w' → Calls Tryd.prog 15 #[.agg #[.int .i64 r, .int .i64 n, .slice ad L.length cap]] w' fun e w2 => ∃ ad2 cap2, e = .returned (.slice ad2 (pathE r n L).length cap2) ∧ (pathE r n L).length ≤ cap2 ∧ IntsAt w2 ad2 (pathE r n L) ∧ Gr w' w2) := fun w' g => refPath_any r n L ad cap w' (hL.gr g) hn
  have hl5 : (pathE r n L).length ≤ 5 := by
    unfold pathE
    split
    · next h => rw [path_len]; have := may_len h; omega
    · simp
  have H7 : Hid (∀ (w' : World) (a b : Option Addr) (c d : Nat), IntsAt w' a (pathE r n L) → IntsAt w' b (pathE r n L) → Calls Tryd.prog 13 #[.slice a (pathE r n L).length c, .slice b (pathE r n L).length d] w' fun e w2 => e = .returned (.bool true) ∧ Gr w' w2) := fun w' a b c d ha hb => numbers_same _ a b c d w' ha hb (by omega)
  generalize errB (Idn.mayB r n L) = ev at *
  generalize orgE r n L = ov at *
  generalize pathE r n L = pl at *
  have e1 : (ev == ev) = true := by simp
  have e2 : (ov == ov) = true := by simp
  clear he hL hl5
  go_enter Tryd.func3, Tryd.ntmps3
  go_wp2
  go_region_held3 (fun w' => Gr w w' ∧ Gr (w.alloc (.cells #[.int .i64 r, .int .i64 n, .slice ad L.length cap] 24)) w' ∧ w'.cell? ⟨w.heap.size, 0, none⟩ = some (.int .i64 r) ∧ w'.cell? ⟨w.heap.size, 1, none⟩ = some (.int .i64 n) ∧ w'.cell? ⟨w.heap.size, 2, none⟩ = some (.slice ad L.length cap))
    ((go_split_ands; exact ⟨(by repeat (first | exact Gr.refl _ | refine Gr.alloc ?_ | refine Gr.drew ?_ | refine Gr.trans ?_ (by assumption))), (by repeat (first | exact Gr.refl _ | refine Gr.alloc ?_ | refine Gr.drew ?_ | refine Gr.trans ?_ (by assumption))), Gr.keep (W := w.alloc (.cells #[.int .i64 r, .int .i64 n, .slice ad L.length cap] 24)) (by repeat (first | exact Gr.refl _ | refine Gr.alloc ?_ | refine Gr.drew ?_ | refine Gr.trans ?_ (by assumption))) (by simp), Gr.keep (W := w.alloc (.cells #[.int .i64 r, .int .i64 n, .slice ad L.length cap] 24)) (by repeat (first | exact Gr.refl _ | refine Gr.alloc ?_ | refine Gr.drew ?_ | refine Gr.trans ?_ (by assumption))) (by simp), Gr.keep (W := w.alloc (.cells #[.int .i64 r, .int .i64 n, .slice ad L.length cap] 24)) (by repeat (first | exact Gr.refl _ | refine Gr.alloc ?_ | refine Gr.drew ?_ | refine Gr.trans ?_ (by assumption))) (by simp)⟩))
    ((first
      | (go_at_call 9; refine (H1.out _ ?_).mono ?_; (go_split_ands; exact (by repeat (first | exact Gr.refl _ | refine Gr.alloc ?_ | refine Gr.drew ?_ | refine Gr.trans ?_ (by assumption)))); rintro e w1 ⟨rfl, hg1⟩)
      | (go_at_call 10; refine (H2.out _ ?_).mono ?_; (go_split_ands; exact (by repeat (first | exact Gr.refl _ | refine Gr.alloc ?_ | refine Gr.drew ?_ | refine Gr.trans ?_ (by assumption)))); rintro e w2 ⟨rfl, hg2⟩)
      | (go_at_call 11; refine (H3.out _ ?_).mono ?_; (go_split_ands; exact (by repeat (first | exact Gr.refl _ | refine Gr.alloc ?_ | refine Gr.drew ?_ | refine Gr.trans ?_ (by assumption)))); rintro e w3 ⟨rfl, hg3⟩)
      | (go_at_call 12; refine (H4.out _ ?_).mono ?_; (go_split_ands; exact (by repeat (first | exact Gr.refl _ | refine Gr.alloc ?_ | refine Gr.drew ?_ | refine Gr.trans ?_ (by assumption)))); rintro e w4 ⟨rfl, hg4⟩)
      | (go_at_call 14; refine (H5.out _ ?_).mono ?_; (go_split_ands; exact (by repeat (first | exact Gr.refl _ | refine Gr.alloc ?_ | refine Gr.drew ?_ | refine Gr.trans ?_ (by assumption)))); rintro e w5 ⟨ad5, cap5, rfl, hcp5, hia5, hg5⟩)
      | (go_at_call 15; refine (H6.out _ ?_).mono ?_; (go_split_ands; exact (by repeat (first | exact Gr.refl _ | refine Gr.alloc ?_ | refine Gr.drew ?_ | refine Gr.trans ?_ (by assumption)))); rintro e w6 ⟨ad6, cap6, rfl, hcp6, hia6, hg6⟩)
      | (go_at_call 13; refine (H7.out _ ad5 ad6 cap5 cap6 ?_ ?_).mono ?_; (exact IntsAt.gr hia5 (by repeat (first | exact Gr.refl _ | refine Gr.alloc ?_ | refine Gr.drew ?_ | refine Gr.trans ?_ (by assumption)))); (exact IntsAt.gr hia6 (by repeat (first | exact Gr.refl _ | refine Gr.alloc ?_ | refine Gr.drew ?_ | refine Gr.trans ?_ (by assumption)))); rintro e w7 ⟨rfl, hg7⟩)
      | (go_at_call 16; refine (HA.out _ ?_).mono ?_; (go_split_ands; exact (by repeat (first | exact Gr.refl _ | refine Gr.alloc ?_ | refine Gr.drew ?_ | refine Gr.trans ?_ (by assumption)))); rintro e w8 ⟨rfl, hg8⟩)))
  all_goals go_wp2
  all_goals go_ret
  all_goals exact ⟨rfl, (by repeat (first | exact Gr.refl _ | refine Gr.alloc ?_ | refine Gr.drew ?_ | refine Gr.trans ?_ (by assumption)))⟩

set_option maxRecDepth 100000 in
theorem identChecks_lifted (os : Os) (started : os.Started) (H : Type) (enc : TypeId × Value → H) :
    ReturnsInHanded {} Tryd.checked os 3 .any (fun w args => (Rows.identChecksSpec.pre enc Tryd.prog Tryd.f3 [] false w args ∧ laidMetH Tryd.prog laidL w) ∧ sizedMet enc Tryd.prog Tryd.f3 (OpenSpec.ofChange Rows.identChecksSpec) false w args)
      (Rows.identChecksSpec.post enc Tryd.prog Tryd.f3 false true false false) := by
  refine returnsInHanded_of_change_and (C := Tryd.checked) (X := fun w _ => laidMetH Tryd.prog laidL w) (fun _ _ _ hh h => h.of_heap hh) own2 started (by kernel_rfl) Tryd.func3
    (ChangeSpec.witness_shaped (enc := enc) (C := Tryd.checked) (os := os) (X := fun w _ => laidMetH Tryd.prog laidL w) false (World.doorLaid Tryd.prog 400 os) #[.agg #[.int .i64 0, .int .i64 0, .slice none 0 0]] 8 rfl (World.shaped_of_RefB (by kernel_rfl) (by kernel_rfl)) (by kernel_rfl) (by kernel_rfl) (by kernel_rfl) (door_met os _)) ?_
  intro W base args ds gs before hval0 hW _ hsz0 hL _
  have hval : ∀ (j : Nat) t v, Tryd.f3.params[j]? = some t → args[j]? = some v → Value.okWide Tryd.prog W .any base t v := hval0
  have hsz : (DataW.weightsEach Tryd.prog (Tryd.f3.params.toList ++ Rows.identChecksSpec.plain.varTypes Tryd.prog) (ds ++ gs)).all (· ≤ reachBytes) = true := hsz0
  have hW' := hW
  obtain ⟨p, q, hA0, hV, rfl, hfz, hnd⟩ := hW
  have hA : DataW.TrodAll enc Tryd.prog W 0 (fun _ => true) true Tryd.f3.params.toList args.toList ds p := hA0
  rw [Tryd.params3] at hA hval hsz
  obtain ⟨v0, d0, rfl, rfl, h0⟩ := trodAll_one hA
  obtain ⟨rfl, rfl⟩ := trodVars_none hV
  have k0 := h0
  have lt0 : ∀ x ∈ p, x.block < W.heap.size := by obtain ⟨m, hm⟩ := k0; exact DataW.trod_lt m _ _ _ hm
  obtain ⟨r0, n0, ad0, cap0, L0, rfl, hL0, hn0, hc0, hz0⟩ := open_id (hval 0 24 v0 rfl rfl) h0
  clear hA0 hval0
  have hT := env_of_laid hL
  refine (identChecks_walk r0 n0 L0 ad0 cap0 W hT hL0 hn0).mono fun e W' ⟨he, hg⟩ => ?_
  subst he
  exact ⟨_, rfl, _, _, _, [], _, [], hW', trodAll_mk1 (shut_bool Tryd.underlying4 _), trodAll_mk1 (Below.trod laidOut2 (by kernel_rfl) (of_decide_eq_true (by kernel_rfl)) k0 hg.below lt0), rfl, hg.below.frame _, fun h => by cases h⟩

theorem identChecks_holds : Rows.IdentChecksSaid :=
  OpenClaim.holds_of_wide 3 Tryd.f3 rfl rfl rfl rfl rfl rfl rfl ⟨rfl, rfl, rfl, rfl, rfl⟩ rfl rfl rfl rfl rfl (by kernel_rfl) Tryd.func3 (by kernel_rfl)
    (of_decide_eq_true (by kernel_rfl)) (by unfold Func.isWrapper; first | (rw [if_pos (by decide +kernel)]; kernel_rfl) | (rw [if_neg (by decide +kernel)]; exact ⟨rfl, rfl⟩))
    (fun os started H enc _ => identChecks_lifted os started H enc)

theorem identChecks_card_holds : Rows.IdentChecksCardSaid :=
  Claim7.holds_tied_plain_at .later [] [.data, .data, .data, .sentinel, .sentinel] true (true, "277e6cc14f7401a6a9a1c21fe2b51decf720abce8c863ec0bbe33a0b21fb3711") true
    identChecks_holds (fun _ h => by cases h) (by kernel_rfl) (fun _ h => by cases h) identChecks_row_tie rfl ⟨rfl, rfl⟩ (by kernel_rfl) rfl
    (fun f fn hf hfn => by
      obtain rfl : f = 3 := Option.some.inj ((show Tryd.prog.funcNamed "entente/ententelaw03.IdentChecks" = some 3 by kernel_rfl).symm.trans hf) |>.symm
      obtain rfl : fn = Tryd.f3 := (Option.some.inj (Tryd.func3.symm.trans hfn)).symm
      exact ⟨by kernel_rfl, fun j t ht => by
        rw [Tryd.params3] at ht
        have hm : t ∈ [24] := by simpa using Array.mem_of_getElem? ht
        have hall : ([24].all fun u => !Tryd.prog.wantsStandIn u) = true := by kernel_rfl
        exact (show Tryd.prog.wantsStandIn t = false by simpa using List.all_eq_true.1 hall t hm)⟩)
    (by kernel_rfl)
end Go.Proofs.YtecpppppadoppaaDoor
