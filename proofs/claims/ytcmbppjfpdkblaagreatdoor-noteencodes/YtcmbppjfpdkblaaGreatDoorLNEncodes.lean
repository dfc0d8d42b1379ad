import Derived.Test.YtcmbppjfpdkblaaGreatDoorHC
import Derived.Test.YtcmbppjfpdkblaaGreatDoorHB
import Derived.Test.YtcmbppjfpdkblaaGreatDoorGX
import Derived.SevenTiedAt

/- For every input the law NoteEncodes answers true: any frame may be, or not, and is laid, or refused, as the document says. -/
namespace Go.Proofs.YtcmbppjfpdkblaaGreatDoor
open Go.ChangeShapes Go.WideShapes Go.ChangeAt Go.RowKit
open Go.ChangeMaps (open_string shut_string)

set_option maxHeartbeats 8000000 in
set_option maxRecDepth 100000 in
theorem noteEncodes_walk (fr tx ep sq ae ac k r n : Int) (L : List (Int × Int)) (d : ByteArray) (y : Int) (ad : Option Addr) (cap : Nat) (w : World) (he : EnvN w) (hL : HopsAt w ad L) (hn : L.length ≤ 9223372036854775807) (hc : L.length ≤ cap) (hd : d.size ≤ 9223372036854775807) :
    Calls Tryz.prog 4 #[.agg #[.int .i64 fr, .int .i64 tx, .int .i64 ep, .int .i64 sq, .int .i64 ae, .int .i64 ac, .int .i64 k, .int .i64 r, .int .i64 n, .slice ad L.length cap, .string d, .int .i64 y]] w fun e w' => e = .returned (.bool true) ∧ Gr w w' := by
  have HA : Hid (∀ w', Gr w w' → Calls Tryz.prog 9 #[] w' fun e w2 => e = .returned (.bool true) ∧ Gr w' w2) := fun w' g => awake_any w' (he.gr g)
  have HW : Hid (∀ w', Gr w w' → Calls Tryz.prog 8 #[.agg #[.int .i64 k, .int .i64 r, .int .i64 n, .slice ad L.length cap, .string d, .int .i64 y]] w' fun e w2 => e = .returned (.bool (decide (L.length ≤ 200) && decide (d.size ≤ 10000))) ∧ Gr w' w2) := fun w' _ => few_any k r n L d y ad cap w'
  by_cases hf : (decide (L.length ≤ 200) && decide (d.size ≤ 10000)) = true
  · rw [hf] at HW
    have H1 : Hid (∀ w', Gr w w' → Calls Tryz.prog 16 #[.agg #[.int .i64 fr, .int .i64 tx, .int .i64 ep, .int .i64 sq, .int .i64 ae, .int .i64 ac, .int .i64 k, .int .i64 r, .int .i64 n, .slice ad L.length cap, .string d, .int .i64 y]] w' fun e w2 => e = .returned (.tuple #[.string ⟨(Nt.encL (⟨fr, tx, ep, sq, ae, ac, ⟨k, r, n, L, d, y⟩⟩ : Fm)).toArray⟩, .int .i64 (Nt.frE (⟨fr, tx, ep, sq, ae, ac, ⟨k, r, n, L, d, y⟩⟩ : Fm))]) ∧ Gr w' w2) := fun w' g => nEncode_any fr tx ep sq ae ac k r n L d y ad cap w' (hL.gr g) hn hd hc (he.tab.gr g) (he.env.gr g)
    have H2 : Hid (∀ w', Gr w w' → Calls Tryz.prog 17 #[.agg #[.int .i64 fr, .int .i64 tx, .int .i64 ep, .int .i64 sq, .int .i64 ae, .int .i64 ac, .int .i64 k, .int .i64 r, .int .i64 n, .slice ad L.length cap, .string d, .int .i64 y]] w' fun e w2 => e = .returned (.tuple #[.string ⟨(Nt.encL (⟨fr, tx, ep, sq, ae, ac, ⟨k, r, n, L, d, y⟩⟩ : Fm)).toArray⟩, .int .i64 (Nt.frE (⟨fr, tx, ep, sq, ae, ac, ⟨k, r, n, L, d, y⟩⟩ : Fm))]) ∧ Gr w' w2) := fun w' g => rEncode_any fr tx ep sq ae ac k r n L d y ad cap w' (hL.gr g) hn hd
    have H5 : Hid (∀ w', Gr w w' → Calls Tryz.prog 18 #[.agg #[.int .i64 fr, .int .i64 tx, .int .i64 ep, .int .i64 sq, .int .i64 ae, .int .i64 ac, .int .i64 k, .int .i64 r, .int .i64 n, .slice ad L.length cap, .string d, .int .i64 y]] w' fun e w2 => e = .returned (.int .i64 (Nt.frE (⟨fr, tx, ep, sq, ae, ac, ⟨k, r, n, L, d, y⟩⟩ : Fm))) ∧ Gr w' w2) := fun w' g => nFrame_any fr tx ep sq ae ac k r n L d y ad cap w' (hL.gr g) hn hd hc
    have H6 : Hid (∀ w', Gr w w' → Calls Tryz.prog 19 #[.agg #[.int .i64 fr, .int .i64 tx, .int .i64 ep, .int .i64 sq, .int .i64 ae, .int .i64 ac, .int .i64 k, .int .i64 r, .int .i64 n, .slice ad L.length cap, .string d, .int .i64 y]] w' fun e w2 => e = .returned (.int .i64 (Nt.frE (⟨fr, tx, ep, sq, ae, ac, ⟨k, r, n, L, d, y⟩⟩ : Fm))) ∧ Gr w' w2) := fun w' g => refNFrame_any fr tx ep sq ae ac k r n L d y ad cap w' (hL.gr g) hn hd
    generalize Nt.encL (⟨fr, tx, ep, sq, ae, ac, ⟨k, r, n, L, d, y⟩⟩ : Fm) = ST at *
    generalize Nt.frE (⟨fr, tx, ep, sq, ae, ac, ⟨k, r, n, L, d, y⟩⟩ : Fm) = CK at *
    have q1 : (CK == CK) = true := by simp
    have q4 : (ST == ST) = true := by simp
    clear he hL hn hc hd hf
    go_enter Tryz.func4, Tryz.ntmps4
    go_wp2_with fail
    refine (HW.out _ ?_).mono ?_
    · exact (by repeat (first | exact Gr.refl _ | refine Gr.alloc ?_ | refine Gr.drew ?_ | refine Gr.trans ?_ (by assumption)))
    rintro e0 w0 ⟨rfl, hg0⟩
    have G0 : Gr w w0 := (by repeat (first | exact Gr.refl _ | refine Gr.alloc ?_ | refine Gr.drew ?_ | refine Gr.trans ?_ (by assumption)))
    have B0 := (Cs.new w [.int .i64 fr, .int .i64 tx, .int .i64 ep, .int .i64 sq, .int .i64 ae, .int .i64 ac, .int .i64 k, .int .i64 r, .int .i64 n, .slice ad L.length cap, .string d, .int .i64 y] 39 _ rfl).gr hg0
    have c0 := B0.at_ 0 _ rfl
    have c1 := B0.at_ 1 _ rfl
    have c2 := B0.at_ 2 _ rfl
    have c3 := B0.at_ 3 _ rfl
    have c4 := B0.at_ 4 _ rfl
    have c5 := B0.at_ 5 _ rfl
    have c6 := B0.at_ 6 _ rfl
    have c7 := B0.at_ 7 _ rfl
    have c8 := B0.at_ 8 _ rfl
    have c9 := B0.at_ 9 _ rfl
    have c10 := B0.at_ 10 _ rfl
    have c11 := B0.at_ 11 _ rfl
    have clt := B0.lt
    clear hg0
    go_wp2_with fail
    refine (H1.out _ ?_).mono ?_
    · exact G0
    rintro e1 w1 ⟨rfl, hg1⟩
    have G1 : Gr w w1 := G0.trans hg1
    have B1 := B0.gr hg1
    clear c0 c1 c2 c3 c4 c5 c6 c7 c8 c9 c10 c11 clt
    have c0 := B1.at_ 0 _ rfl
    have c1 := B1.at_ 1 _ rfl
    have c2 := B1.at_ 2 _ rfl
    have c3 := B1.at_ 3 _ rfl
    have c4 := B1.at_ 4 _ rfl
    have c5 := B1.at_ 5 _ rfl
    have c6 := B1.at_ 6 _ rfl
    have c7 := B1.at_ 7 _ rfl
    have c8 := B1.at_ 8 _ rfl
    have c9 := B1.at_ 9 _ rfl
    have c10 := B1.at_ 10 _ rfl
    have c11 := B1.at_ 11 _ rfl
    have clt := B1.lt
    clear hg1 B0 G0
    go_wp2_with fail
    refine (H2.out _ ?_).mono ?_
    · exact G1
    rintro e2 w2 ⟨rfl, hg2⟩
    have G2 : Gr w w2 := G1.trans hg2
    have B2 := B1.gr hg2
    clear c0 c1 c2 c3 c4 c5 c6 c7 c8 c9 c10 c11 clt
    have c0 := B2.at_ 0 _ rfl
    have c1 := B2.at_ 1 _ rfl
    have c2 := B2.at_ 2 _ rfl
    have c3 := B2.at_ 3 _ rfl
    have c4 := B2.at_ 4 _ rfl
    have c5 := B2.at_ 5 _ rfl
    have c6 := B2.at_ 6 _ rfl
    have c7 := B2.at_ 7 _ rfl
    have c8 := B2.at_ 8 _ rfl
    have c9 := B2.at_ 9 _ rfl
    have c10 := B2.at_ 10 _ rfl
    have c11 := B2.at_ 11 _ rfl
    have clt := B2.lt
    clear hg2 B1 G1
    go_wp2
    go_region_held3 (fun w' => Gr w2 w' ∧ w'.cell? ⟨w.heap.size, 0, none⟩ = some (.int .i64 fr) ∧ w'.cell? ⟨w.heap.size, 1, none⟩ = some (.int .i64 tx) ∧ w'.cell? ⟨w.heap.size, 2, none⟩ = some (.int .i64 ep) ∧ w'.cell? ⟨w.heap.size, 3, none⟩ = some (.int .i64 sq) ∧ w'.cell? ⟨w.heap.size, 4, none⟩ = some (.int .i64 ae) ∧ w'.cell? ⟨w.heap.size, 5, none⟩ = some (.int .i64 ac) ∧ w'.cell? ⟨w.heap.size, 6, none⟩ = some (.int .i64 k) ∧ w'.cell? ⟨w.heap.size, 7, none⟩ = some (.int .i64 r) ∧ w'.cell? ⟨w.heap.size, 8, none⟩ = some (.int .i64 n) ∧ w'.cell? ⟨w.heap.size, 9, none⟩ = some (.slice ad L.length cap) ∧ w'.cell? ⟨w.heap.size, 10, none⟩ = some (.string d) ∧ w'.cell? ⟨w.heap.size, 11, none⟩ = some (.int .i64 y))
      ((go_split_ands; exact ⟨(by repeat (first | exact Gr.refl _ | refine Gr.alloc ?_ | refine Gr.drew ?_ | refine Gr.trans ?_ (by assumption))), Gr.keep (W := w2) (by repeat (first | exact Gr.refl _ | refine Gr.alloc ?_ | refine Gr.drew ?_ | refine Gr.trans ?_ (by assumption))) c0, Gr.keep (W := w2) (by repeat (first | exact Gr.refl _ | refine Gr.alloc ?_ | refine Gr.drew ?_ | refine Gr.trans ?_ (by assumption))) c1, Gr.keep (W := w2) (by repeat (first | exact Gr.refl _ | refine Gr.alloc ?_ | refine Gr.drew ?_ | refine Gr.trans ?_ (by assumption))) c2, Gr.keep (W := w2) (by repeat (first | exact Gr.refl _ | refine Gr.alloc ?_ | refine Gr.drew ?_ | refine Gr.trans ?_ (by assumption))) c3, Gr.keep (W := w2) (by repeat (first | exact Gr.refl _ | refine Gr.alloc ?_ | refine Gr.drew ?_ | refine Gr.trans ?_ (by assumption))) c4, Gr.keep (W := w2) (by repeat (first | exact Gr.refl _ | refine Gr.alloc ?_ | refine Gr.drew ?_ | refine Gr.trans ?_ (by assumption))) c5, Gr.keep (W := w2) (by repeat (first | exact Gr.refl _ | refine Gr.alloc ?_ | refine Gr.drew ?_ | refine Gr.trans ?_ (by assumption))) c6, Gr.keep (W := w2) (by repeat (first | exact Gr.refl _ | refine Gr.alloc ?_ | refine Gr.drew ?_ | refine Gr.trans ?_ (by assumption))) c7, Gr.keep (W := w2) (by repeat (first | exact Gr.refl _ | refine Gr.alloc ?_ | refine Gr.drew ?_ | refine Gr.trans ?_ (by assumption))) c8, Gr.keep (W := w2) (by repeat (first | exact Gr.refl _ | refine Gr.alloc ?_ | refine Gr.drew ?_ | refine Gr.trans ?_ (by assumption))) c9, Gr.keep (W := w2) (by repeat (first | exact Gr.refl _ | refine Gr.alloc ?_ | refine Gr.drew ?_ | refine Gr.trans ?_ (by assumption))) c10, Gr.keep (W := w2) (by repeat (first | exact Gr.refl _ | refine Gr.alloc ?_ | refine Gr.drew ?_ | refine Gr.trans ?_ (by assumption))) c11⟩))
      ((first | (go_at_call 18; refine (H5.out _ ?_).mono ?_; (go_split_ands; exact G2.trans (by repeat (first | exact Gr.refl _ | refine Gr.alloc ?_ | refine Gr.drew ?_ | refine Gr.trans ?_ (by assumption)))); rintro e v1 ⟨rfl, hv1⟩; go_split_ands) | (go_at_call 19; refine (H6.out _ ?_).mono ?_; (go_split_ands; exact G2.trans (by repeat (first | exact Gr.refl _ | refine Gr.alloc ?_ | refine Gr.drew ?_ | refine Gr.trans ?_ (by assumption)))); rintro e v2 ⟨rfl, hv2⟩; go_split_ands) | (go_at_call 9; refine (HA.out _ ?_).mono ?_; (go_split_ands; exact G2.trans (by repeat (first | exact Gr.refl _ | refine Gr.alloc ?_ | refine Gr.drew ?_ | refine Gr.trans ?_ (by assumption)))); rintro e v3 ⟨rfl, hv3⟩; go_split_ands)))
    all_goals go_wp2
    all_goals go_ret
    all_goals exact ⟨rfl, G2.trans (by repeat (first | exact Gr.refl _ | refine Gr.alloc ?_ | refine Gr.drew ?_ | refine Gr.trans ?_ (by assumption)))⟩
  · have hf' : (decide (L.length ≤ 200) && decide (d.size ≤ 10000)) = false := by simpa using hf
    rw [hf'] at HW
    clear he hL hn hc hd hf hf'
    go_enter Tryz.func4, Tryz.ntmps4
    go_wp2_with fail
    refine (HW.out _ ?_).mono ?_
    · exact (by repeat (first | exact Gr.refl _ | refine Gr.alloc ?_ | refine Gr.drew ?_ | refine Gr.trans ?_ (by assumption)))
    rintro e1 w1 ⟨rfl, hg1⟩
    have G1 : Gr w w1 := (by repeat (first | exact Gr.refl _ | refine Gr.alloc ?_ | refine Gr.drew ?_ | refine Gr.trans ?_ (by assumption)))
    go_wp2_with fail
    refine (HA.out _ G1).mono ?_
    rintro e2 w2 ⟨rfl, hg2⟩
    go_wp2
    go_ret
    exact ⟨rfl, G1.trans hg2⟩

set_option maxRecDepth 100000 in
theorem noteEncodes_lifted (os : Os) (started : os.Started) (H : Type) (enc : TypeId × Value → H) :
    ReturnsInHanded {} Tryz.checked os 4 .any (fun w args => (Rows.noteEncodesSpec.pre enc Tryz.prog Tryz.f4 [] false w args ∧ laidMetH Tryz.prog laidL w) ∧ sizedMet enc Tryz.prog Tryz.f4 (OpenSpec.ofChange Rows.noteEncodesSpec) false w args)
      (Rows.noteEncodesSpec.post enc Tryz.prog Tryz.f4 false true false false) := by
  refine returnsInHanded_of_change_and (C := Tryz.checked) (X := fun w _ => laidMetH Tryz.prog laidL w) (fun _ _ _ hh h => h.of_heap hh) own2 started (by kernel_rfl) Tryz.func4
    (ChangeSpec.witness_shaped (enc := enc) (C := Tryz.checked) (os := os) (X := fun w _ => laidMetH Tryz.prog laidL w) false (World.doorLaid Tryz.prog 400 os) #[.agg #[.int .i64 0, .int .i64 0, .int .i64 0, .int .i64 0, .int .i64 0, .int .i64 0, .int .i64 0, .int .i64 0, .int .i64 0, .slice none 0 0, .string ⟨#[]⟩, .int .i64 0]] 8 rfl (World.shaped_of_RefB (by kernel_rfl) (by kernel_rfl)) (by kernel_rfl) (by kernel_rfl) (by kernel_rfl) (door_met os _)) ?_
  intro W base args ds gs before hval0 hW _ hsz0 hL _
  have hval : ∀ (j : Nat) t v, Tryz.f4.params[j]? = some t → args[j]? = some v → Value.okWide Tryz.prog W .any base t v := hval0
  have hsz : (DataW.weightsEach Tryz.prog (Tryz.f4.params.toList ++ Rows.noteEncodesSpec.plain.varTypes Tryz.prog) (ds ++ gs)).all (· ≤ reachBytes) = true := hsz0
  have hW' := hW
  obtain ⟨p, q, hA0, hV, rfl, hfz, hnd⟩ := hW
  have hA : DataW.TrodAll enc Tryz.prog W 0 (fun _ => true) true Tryz.f4.params.toList args.toList ds p := hA0
  rw [Tryz.params4] at hA hval hsz
  obtain ⟨v0, d0, rfl, rfl, h0⟩ := trodAll_one hA
  obtain ⟨rfl, rfl⟩ := trodVars_none hV
  have k0 := h0
  have lt0 : ∀ x ∈ p, x.block < W.heap.size := by obtain ⟨m, hm⟩ := k0; exact DataW.trod_lt m _ _ _ hm
  obtain ⟨x0, ad0, cap0, rfl, hL0, hn0, hc0, hd0⟩ := open_frame (hval 0 39 v0 rfl rfl) h0
  clear hA0 hval0
  have hT := env_of_laid hL
  refine (noteEncodes_walk x0.f x0.t x0.e x0.s x0.a x0.c x0.n.k x0.n.r x0.n.n x0.n.L x0.n.d x0.n.y ad0 cap0 W hT hL0 hn0 hc0 hd0).mono fun e W' ⟨he, hg⟩ => ?_
  subst he
  exact ⟨_, rfl, _, _, _, [], _, [], hW', trodAll_mk1 (shut_bool Tryz.underlying4 _), trodAll_mk1 (Below.trod laidOut2 (by kernel_rfl) (of_decide_eq_true (by kernel_rfl)) k0 hg.below lt0), rfl, hg.below.frame _, fun h => by cases h⟩

theorem noteEncodes_holds : Rows.NoteEncodesSaid :=
  OpenClaim.holds_of_wide 4 Tryz.f4 rfl rfl rfl rfl rfl rfl rfl ⟨rfl, rfl, rfl, rfl, rfl⟩ rfl rfl rfl rfl rfl (by kernel_rfl) Tryz.func4 (by kernel_rfl)
    (of_decide_eq_true (by kernel_rfl)) (by unfold Func.isWrapper; first | (rw [if_pos (by decide +kernel)]; kernel_rfl) | (rw [if_neg (by decide +kernel)]; exact ⟨rfl, rfl⟩))
    (fun os started H enc _ => noteEncodes_lifted os started H enc)

theorem noteEncodes_card_holds : Rows.NoteEncodesCardSaid :=
  Claim7.holds_tied_plain_at .later [] [.data, .data, .data, .sentinel, .sentinel, .data, .data] true (true, "f0fa4e2e6549f31233243eab08a94723d74d26bc049039476799d23fce00b93f") true
    noteEncodes_holds (fun _ h => by cases h) (by kernel_rfl) (fun _ h => by cases h) noteEncodes_row_tie rfl ⟨rfl, rfl⟩ (by kernel_rfl) rfl
    (fun f fn hf hfn => by
      obtain rfl : f = 4 := Option.some.inj ((show Tryz.prog.funcNamed "entente/ententelaw13.NoteEncodes" = some 4 by kernel_rfl).symm.trans hf) |>.symm
      obtain rfl : fn = Tryz.f4 := (Option.some.inj (Tryz.func4.symm.trans hfn)).symm
      exact ⟨by kernel_rfl, fun j t ht => by
        rw [Tryz.params4] at ht
        have hm : t ∈ [39] := by simpa using Array.mem_of_getElem? ht
        have hall : ([39].all fun u => !Tryz.prog.wantsStandIn u) = true := by kernel_rfl
        exact (show Tryz.prog.wantsStandIn t = false by simpa using List.all_eq_true.1 hall t hm)⟩)
    (by kernel_rfl)
end Go.Proofs.YtcmbppjfpdkblaaGreatDoor
