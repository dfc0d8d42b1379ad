import Derived.Test.YtcmbppjfpdkblaaGreatDoorHC
import Derived.Test.YtcmbppjfpdkblaaGreatDoorHB
import Derived.Test.YtcmbppjfpdkblaaGreatDoorGZ
import Derived.SevenTiedAt

/- For every input the law NoteChecks answers true: any note may be, or not, has its ends, and is written, or refused, as the document says. -/
namespace Go.Proofs.YtcmbppjfpdkblaaGreatDoor
open Go.ChangeShapes Go.WideShapes Go.ChangeAt Go.RowKit
open Go.ChangeMaps (open_string shut_string)

set_option maxHeartbeats 8000000 in
set_option maxRecDepth 100000 in
theorem noteChecks_walk (k r n : Int) (L : List (Int × Int)) (d : ByteArray) (y : Int) (ad : Option Addr) (cap : Nat) (w : World) (he : EnvN w) (hL : HopsAt w ad L) (hn : L.length ≤ 9223372036854775807) (hc : L.length ≤ cap) (hd : d.size ≤ 9223372036854775807) :
    Calls Tryz.prog 3 #[.agg #[.int .i64 k, .int .i64 r, .int .i64 n, .slice ad L.length cap, .string d, .int .i64 y]] w fun e w' => e = .returned (.bool true) ∧ Gr w w' := by
  have HA : Hid (∀ w', Gr w w' → Calls Tryz.prog 9 #[] w' fun e w2 => e = .returned (.bool true) ∧ Gr w' w2) := fun w' g => awake_any w' (he.gr g)
  have HW : Hid (∀ w', Gr w w' → Calls Tryz.prog 8 #[.agg #[.int .i64 k, .int .i64 r, .int .i64 n, .slice ad L.length cap, .string d, .int .i64 y]] w' fun e w2 => e = .returned (.bool (decide (L.length ≤ 200) && decide (d.size ≤ 10000))) ∧ Gr w' w2) := fun w' _ => few_any k r n L d y ad cap w'
  by_cases hf : (decide (L.length ≤ 200) && decide (d.size ≤ 10000)) = true
  · rw [hf] at HW
    have H1 : Hid (∀ w', Gr w w' → Calls Tryz.prog 10 #[.agg #[.int .i64 k, .int .i64 r, .int .i64 n, .slice ad L.length cap, .string d, .int .i64 y]] w' fun e w2 => e = .returned (.tuple #[.int .i64 (Nt.ends1 (⟨k, r, n, L, d, y⟩ : Nt)), .int .i64 (Nt.ends2 (⟨k, r, n, L, d, y⟩ : Nt))]) ∧ Gr w' w2) := fun w' g => nEnds_any k r n L d y ad cap w' (hL.gr g) hn hd hc
    have H2 : Hid (∀ w', Gr w w' → Calls Tryz.prog 11 #[.agg #[.int .i64 k, .int .i64 r, .int .i64 n, .slice ad L.length cap, .string d, .int .i64 y]] w' fun e w2 => e = .returned (.tuple #[.int .i64 (Nt.ends1 (⟨k, r, n, L, d, y⟩ : Nt)), .int .i64 (Nt.ends2 (⟨k, r, n, L, d, y⟩ : Nt))]) ∧ Gr w' w2) := fun w' g => refNEnds_any k r n L d y ad cap w' (hL.gr g) hn hd
    have H3 : Hid (∀ w', Gr w w' → Calls Tryz.prog 12 #[.agg #[.int .i64 k, .int .i64 r, .int .i64 n, .slice ad L.length cap, .string d, .int .i64 y]] w' fun e w2 => e = .returned (.tuple #[.string ⟨(Nt.shL (⟨k, r, n, L, d, y⟩ : Nt)).toArray⟩, .int .i64 (Nt.ckE (⟨k, r, n, L, d, y⟩ : Nt))]) ∧ Gr w' w2) := fun w' g => nShow_any k r n L d y ad cap w' (hL.gr g) hn hd (he.wds.gr g) (he.env.gr g)
    have H4 : Hid (∀ w', Gr w w' → Calls Tryz.prog 13 #[.agg #[.int .i64 k, .int .i64 r, .int .i64 n, .slice ad L.length cap, .string d, .int .i64 y]] w' fun e w2 => e = .returned (.tuple #[.string ⟨(Nt.shL (⟨k, r, n, L, d, y⟩ : Nt)).toArray⟩, .int .i64 (Nt.ckE (⟨k, r, n, L, d, y⟩ : Nt))]) ∧ Gr w' w2) := fun w' g => rShow_any k r n L d y ad cap w' (hL.gr g) hn hd
    have H5 : Hid (∀ w', Gr w w' → Calls Tryz.prog 14 #[.agg #[.int .i64 k, .int .i64 r, .int .i64 n, .slice ad L.length cap, .string d, .int .i64 y]] w' fun e w2 => e = .returned (.int .i64 (Nt.ckE (⟨k, r, n, L, d, y⟩ : Nt))) ∧ Gr w' w2) := fun w' g => nCheck_any k r n L d y ad cap w' (hL.gr g) hn hd
    have H6 : Hid (∀ w', Gr w w' → Calls Tryz.prog 15 #[.agg #[.int .i64 k, .int .i64 r, .int .i64 n, .slice ad L.length cap, .string d, .int .i64 y]] w' fun e w2 => e = .returned (.int .i64 (Nt.ckE (⟨k, r, n, L, d, y⟩ : Nt))) ∧ Gr w' w2) := fun w' g => refNCheck_any k r n L d y ad cap w' (hL.gr g) hn hd
    generalize Nt.ends1 (⟨k, r, n, L, d, y⟩ : Nt) = E1 at *
    generalize Nt.ends2 (⟨k, r, n, L, d, y⟩ : Nt) = E2 at *
    generalize Nt.shL (⟨k, r, n, L, d, y⟩ : Nt) = ST at *
    generalize Nt.ckE (⟨k, r, n, L, d, y⟩ : Nt) = CK at *
    have q1 : (CK == CK) = true := by simp
    have q2 : (E1 == E1) = true := by simp
    have q3 : (E2 == E2) = true := by simp
    have q4 : (ST == ST) = true := by simp
    clear he hL hn hc hd hf
    go_enter Tryz.func3, Tryz.ntmps3
    go_wp2_with fail
    refine (HW.out _ ?_).mono ?_
    · exact (by repeat (first | exact Gr.refl _ | refine Gr.alloc ?_ | refine Gr.drew ?_ | refine Gr.trans ?_ (by assumption)))
    rintro e0 w0 ⟨rfl, hg0⟩
    have G0 : Gr w w0 := (by repeat (first | exact Gr.refl _ | refine Gr.alloc ?_ | refine Gr.drew ?_ | refine Gr.trans ?_ (by assumption)))
    have B0 := (Cs.new w [.int .i64 k, .int .i64 r, .int .i64 n, .slice ad L.length cap, .string d, .int .i64 y] 26 _ rfl).gr hg0
    have c0 := B0.at_ 0 _ rfl
    have c1 := B0.at_ 1 _ rfl
    have c2 := B0.at_ 2 _ rfl
    have c3 := B0.at_ 3 _ rfl
    have c4 := B0.at_ 4 _ rfl
    have c5 := B0.at_ 5 _ rfl
    have clt := B0.lt
    clear hg0
    go_wp2_with fail
    refine (H1.out _ ?_).mono ?_
    · exact G0
    rintro e1 w1 ⟨rfl, hg1⟩
    have G1 : Gr w w1 := G0.trans hg1
    have B1 := B0.gr hg1
    clear c0 c1 c2 c3 c4 c5 clt
    have c0 := B1.at_ 0 _ rfl
    have c1 := B1.at_ 1 _ rfl
    have c2 := B1.at_ 2 _ rfl
    have c3 := B1.at_ 3 _ rfl
    have c4 := B1.at_ 4 _ rfl
    have c5 := B1.at_ 5 _ rfl
    have clt := B1.lt
    clear hg1 B0 G0
    go_wp2_with fail
    refine (H2.out _ ?_).mono ?_
    · exact G1
    rintro e2 w2 ⟨rfl, hg2⟩
    have G2 : Gr w w2 := G1.trans hg2
    have B2 := B1.gr hg2
    clear c0 c1 c2 c3 c4 c5 clt
    have c0 := B2.at_ 0 _ rfl
    have c1 := B2.at_ 1 _ rfl
    have c2 := B2.at_ 2 _ rfl
    have c3 := B2.at_ 3 _ rfl
    have c4 := B2.at_ 4 _ rfl
    have c5 := B2.at_ 5 _ rfl
    have clt := B2.lt
    clear hg2 B1 G1
    go_wp2_with fail
    refine (H3.out _ ?_).mono ?_
    · exact G2
    rintro e3 w3 ⟨rfl, hg3⟩
    have G3 : Gr w w3 := G2.trans hg3
    have B3 := B2.gr hg3
    clear c0 c1 c2 c3 c4 c5 clt
    have c0 := B3.at_ 0 _ rfl
    have c1 := B3.at_ 1 _ rfl
    have c2 := B3.at_ 2 _ rfl
    have c3 := B3.at_ 3 _ rfl
    have c4 := B3.at_ 4 _ rfl
    have c5 := B3.at_ 5 _ rfl
    have clt := B3.lt
    clear hg3 B2 G2
    go_wp2_with fail
    refine (H4.out _ ?_).mono ?_
    · exact G3
    rintro e4 w4 ⟨rfl, hg4⟩
    have G4 : Gr w w4 := G3.trans hg4
    have B4 := B3.gr hg4
    clear c0 c1 c2 c3 c4 c5 clt
    have c0 := B4.at_ 0 _ rfl
    have c1 := B4.at_ 1 _ rfl
    have c2 := B4.at_ 2 _ rfl
    have c3 := B4.at_ 3 _ rfl
    have c4 := B4.at_ 4 _ rfl
    have c5 := B4.at_ 5 _ rfl
    have clt := B4.lt
    clear hg4 B3 G3
    go_wp2
    go_region_held3 (fun w' => Gr w4 w' ∧ w'.cell? ⟨w.heap.size, 0, none⟩ = some (.int .i64 k) ∧ w'.cell? ⟨w.heap.size, 1, none⟩ = some (.int .i64 r) ∧ w'.cell? ⟨w.heap.size, 2, none⟩ = some (.int .i64 n) ∧ w'.cell? ⟨w.heap.size, 3, none⟩ = some (.slice ad L.length cap) ∧ w'.cell? ⟨w.heap.size, 4, none⟩ = some (.string d) ∧ w'.cell? ⟨w.heap.size, 5, none⟩ = some (.int .i64 y))
      ((go_split_ands; exact ⟨(by repeat (first | exact Gr.refl _ | refine Gr.alloc ?_ | refine Gr.drew ?_ | refine Gr.trans ?_ (by assumption))), Gr.keep (W := w4) (by repeat (first | exact Gr.refl _ | refine Gr.alloc ?_ | refine Gr.drew ?_ | refine Gr.trans ?_ (by assumption))) c0, Gr.keep (W := w4) (by repeat (first | exact Gr.refl _ | refine Gr.alloc ?_ | refine Gr.drew ?_ | refine Gr.trans ?_ (by assumption))) c1, Gr.keep (W := w4) (by repeat (first | exact Gr.refl _ | refine Gr.alloc ?_ | refine Gr.drew ?_ | refine Gr.trans ?_ (by assumption))) c2, Gr.keep (W := w4) (by repeat (first | exact Gr.refl _ | refine Gr.alloc ?_ | refine Gr.drew ?_ | refine Gr.trans ?_ (by assumption))) c3, Gr.keep (W := w4) (by repeat (first | exact Gr.refl _ | refine Gr.alloc ?_ | refine Gr.drew ?_ | refine Gr.trans ?_ (by assumption))) c4, Gr.keep (W := w4) (by repeat (first | exact Gr.refl _ | refine Gr.alloc ?_ | refine Gr.drew ?_ | refine Gr.trans ?_ (by assumption))) c5⟩))
      ((first | (go_at_call 14; refine (H5.out _ ?_).mono ?_; (go_split_ands; exact G4.trans (by repeat (first | exact Gr.refl _ | refine Gr.alloc ?_ | refine Gr.drew ?_ | refine Gr.trans ?_ (by assumption)))); rintro e v1 ⟨rfl, hv1⟩; go_split_ands) | (go_at_call 15; refine (H6.out _ ?_).mono ?_; (go_split_ands; exact G4.trans (by repeat (first | exact Gr.refl _ | refine Gr.alloc ?_ | refine Gr.drew ?_ | refine Gr.trans ?_ (by assumption)))); rintro e v2 ⟨rfl, hv2⟩; go_split_ands) | (go_at_call 9; refine (HA.out _ ?_).mono ?_; (go_split_ands; exact G4.trans (by repeat (first | exact Gr.refl _ | refine Gr.alloc ?_ | refine Gr.drew ?_ | refine Gr.trans ?_ (by assumption)))); rintro e v3 ⟨rfl, hv3⟩; go_split_ands)))
    all_goals go_wp2
    all_goals go_ret
    all_goals exact ⟨rfl, G4.trans (by repeat (first | exact Gr.refl _ | refine Gr.alloc ?_ | refine Gr.drew ?_ | refine Gr.trans ?_ (by assumption)))⟩
  · have hf' : (decide (L.length ≤ 200) && decide (d.size ≤ 10000)) = false := by simpa using hf
    rw [hf'] at HW
    clear he hL hn hc hd hf hf'
    go_enter Tryz.func3, Tryz.ntmps3
    go_wp2_with fail
    refine (HW.out _ ?_).mono ?_
    · exact (by repeat (first | exact Gr.refl _ | refine Gr.alloc ?_ | refine Gr.drew ?_ | refine Gr.trans ?_ (by assumption)))
    rintro e1 w1 ⟨rfl, hg1⟩
    have G1 : Gr w w1 := (by repeat (first | exact Gr.refl _ | refine Gr.alloc ?_ | refine Gr.drew ?_ | refine Gr.trans ?_ (by assumption)))
    go_wp2_with fail
    refine (HA.out _ G1).mono ?_
    rintro e2 w2 ⟨rfl, hg2⟩
    go_wp2
    go_ret
    exact ⟨rfl, G1.trans hg2⟩

set_option maxRecDepth 100000 in
theorem noteChecks_lifted (os : Os) (started : os.Started) (H : Type) (enc : TypeId × Value → H) :
    ReturnsInHanded {} Tryz.checked os 3 .any (fun w args => (Rows.noteChecksSpec.pre enc Tryz.prog Tryz.f3 [] false w args ∧ laidMetH Tryz.prog laidL w) ∧ sizedMet enc Tryz.prog Tryz.f3 (OpenSpec.ofChange Rows.noteChecksSpec) false w args)
      (Rows.noteChecksSpec.post enc Tryz.prog Tryz.f3 false true false false) := by
  refine returnsInHanded_of_change_and (C := Tryz.checked) (X := fun w _ => laidMetH Tryz.prog laidL w) (fun _ _ _ hh h => h.of_heap hh) own2 started (by kernel_rfl) Tryz.func3
    (ChangeSpec.witness_shaped (enc := enc) (C := Tryz.checked) (os := os) (X := fun w _ => laidMetH Tryz.prog laidL w) false (World.doorLaid Tryz.prog 400 os) #[.agg #[.int .i64 0, .int .i64 0, .int .i64 0, .slice none 0 0, .string ⟨#[]⟩, .int .i64 0]] 8 rfl (World.shaped_of_RefB (by kernel_rfl) (by kernel_rfl)) (by kernel_rfl) (by kernel_rfl) (by kernel_rfl) (door_met os _)) ?_
  intro W base args ds gs before hval0 hW _ hsz0 hL _
  have hval : ∀ (j : Nat) t v, Tryz.f3.params[j]? = some t → args[j]? = some v → Value.okWide Tryz.prog W .any base t v := hval0
  have hsz : (DataW.weightsEach Tryz.prog (Tryz.f3.params.toList ++ Rows.noteChecksSpec.plain.varTypes Tryz.prog) (ds ++ gs)).all (· ≤ reachBytes) = true := hsz0
  have hW' := hW
  obtain ⟨p, q, hA0, hV, rfl, hfz, hnd⟩ := hW
  have hA : DataW.TrodAll enc Tryz.prog W 0 (fun _ => true) true Tryz.f3.params.toList args.toList ds p := hA0
  rw [Tryz.params3] at hA hval hsz
  obtain ⟨v0, d0, rfl, rfl, h0⟩ := trodAll_one hA
  obtain ⟨rfl, rfl⟩ := trodVars_none hV
  have k0 := h0
  have lt0 : ∀ x ∈ p, x.block < W.heap.size := by obtain ⟨m, hm⟩ := k0; exact DataW.trod_lt m _ _ _ hm
  obtain ⟨x0, ad0, cap0, rfl, hL0, hn0, hc0, hd0⟩ := open_note (hval 0 26 v0 rfl rfl) h0
  clear hA0 hval0
  have hT := env_of_laid hL
  refine (noteChecks_walk x0.k x0.r x0.n x0.L x0.d x0.y ad0 cap0 W hT hL0 hn0 hc0 hd0).mono fun e W' ⟨he, hg⟩ => ?_
  subst he
  exact ⟨_, rfl, _, _, _, [], _, [], hW', trodAll_mk1 (shut_bool Tryz.underlying4 _), trodAll_mk1 (Below.trod laidOut2 (by kernel_rfl) (of_decide_eq_true (by kernel_rfl)) k0 hg.below lt0), rfl, hg.below.frame _, fun h => by cases h⟩

theorem noteChecks_holds : Rows.NoteChecksSaid :=
  OpenClaim.holds_of_wide 3 Tryz.f3 rfl rfl rfl rfl rfl rfl rfl ⟨rfl, rfl, rfl, rfl, rfl⟩ rfl rfl rfl rfl rfl (by kernel_rfl) Tryz.func3 (by kernel_rfl)
    (of_decide_eq_true (by kernel_rfl)) (by unfold Func.isWrapper; first | (rw [if_pos (by decide +kernel)]; kernel_rfl) | (rw [if_neg (by decide +kernel)]; exact ⟨rfl, rfl⟩))
    (fun os started H enc _ => noteChecks_lifted os started H enc)

theorem noteChecks_card_holds : Rows.NoteChecksCardSaid :=
  Claim7.holds_tied_plain_at .later [] [.data, .data, .data, .sentinel, .sentinel, .data, .data] true (true, "f0fa4e2e6549f31233243eab08a94723d74d26bc049039476799d23fce00b93f") true
    noteChecks_holds (fun _ h => by cases h) (by kernel_rfl) (fun _ h => by cases h) noteChecks_row_tie rfl ⟨rfl, rfl⟩ (by kernel_rfl) rfl
    (fun f fn hf hfn => by
      obtain rfl : f = 3 := Option.some.inj ((show Tryz.prog.funcNamed "entente/ententelaw13.NoteChecks" = some 3 by kernel_rfl).symm.trans hf) |>.symm
      obtain rfl : fn = Tryz.f3 := (Option.some.inj (Tryz.func3.symm.trans hfn)).symm
      exact ⟨by kernel_rfl, fun j t ht => by
        rw [Tryz.params3] at ht
        have hm : t ∈ [26] := by simpa using Array.mem_of_getElem? ht
        have hall : ([26].all fun u => !Tryz.prog.wantsStandIn u) = true := by kernel_rfl
        exact (show Tryz.prog.wantsStandIn t = false by simpa using List.all_eq_true.1 hall t hm)⟩)
    (by kernel_rfl)
end Go.Proofs.YtcmbppjfpdkblaaGreatDoor
