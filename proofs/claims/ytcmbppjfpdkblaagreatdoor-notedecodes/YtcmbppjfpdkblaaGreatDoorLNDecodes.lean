import Derived.Test.YtcmbppjfpdkblaaGreatDoorHC
import Derived.Test.YtcmbppjfpdkblaaGreatDoorHB
import Derived.Test.YtcmbppjfpdkblaaGreatDoorGY
import Derived.Test.YtcmbppjfpdkblaaGreatDoorGS
import Derived.SevenTiedAt

/- For every input the law NoteDecodes answers true: any bytes are the document's frame, or none, for its reason. -/
namespace Go.Proofs.YtcmbppjfpdkblaaGreatDoor
open Go.ChangeShapes Go.WideShapes Go.ChangeAt Go.RowKit
open Go.ChangeMaps (open_string shut_string)

set_option maxHeartbeats 4000000 in
set_option maxRecDepth 100000 in
theorem noteDecodes_walk (s : ByteArray) (w : World) (he : EnvN w) (hs : s.size ≤ 140737488355328) :
    Calls Tryz.prog 5 #[.string s] w fun e w' => e = .returned (.bool true) ∧ Gr w w' := by
  have HA : Hid (∀ w', Gr w w' → Calls Tryz.prog 9 #[] w' fun e w2 => e = .returned (.bool true) ∧ Gr w' w2) := fun w' g => awake_any w' (he.gr g)
  by_cases hl : s.size ≤ 40000
  · have hl' : ¬ ((40000 : Int) < (s.size : Int)) := by omega
    obtain ⟨d4, dd⟩ := dc_small s.data.toList
    have HD : Hid (∀ w', Gr w w' → Calls Tryz.prog 20 #[.string s] w' fun e w2 => ∃ ad cap, e = .returned (.tuple #[.agg (fmC (Nt.dcF s.data.toList) ad cap).toArray, .int .i64 (Nt.dcE s.data.toList)]) ∧ HopsAt w2 ad (Nt.dcF s.data.toList).n.L ∧ Gr w' w2) := by
      intro w' g
      refine (nDecode_any s w' (he.tab.gr g) (he.env.gr g) hs).mono ?_
      rintro e w2 ⟨ad, cap, h1, _, h3, _, h5⟩
      exact ⟨ad, cap, h1, h3, h5⟩
    have HR : Hid (∀ w', Calls Tryz.prog 21 #[.string s] w' fun e w2 => ∃ ad cap, e = .returned (.tuple #[.agg (fmC (Nt.dcF s.data.toList) ad cap).toArray, .int .i64 (Nt.dcE s.data.toList)]) ∧ HopsAt w2 ad (Nt.dcF s.data.toList).n.L ∧ Gr w' w2) := fun w' => rDecode_any s w' hs
    generalize Nt.dcE s.data.toList = E at *
    generalize Nt.dcF s.data.toList = FF at *
    obtain ⟨fr, tx, ep, sq, ae, ac, ⟨k, r, n, L, d, y⟩⟩ := FF
    simp only [fmC] at HD HR d4
    have HS : Hid (∀ (w' : World) (a b : Option Addr) (c c2 : Nat), HopsAt w' a L → HopsAt w' b L → Calls Tryz.prog 22 #[.agg #[.int .i64 fr, .int .i64 tx, .int .i64 ep, .int .i64 sq, .int .i64 ae, .int .i64 ac, .int .i64 k, .int .i64 r, .int .i64 n, .slice a L.length c, .string d, .int .i64 y], .agg #[.int .i64 fr, .int .i64 tx, .int .i64 ep, .int .i64 sq, .int .i64 ae, .int .i64 ac, .int .i64 k, .int .i64 r, .int .i64 n, .slice b L.length c2, .string d, .int .i64 y]] w' fun e w2 => e = .returned (.bool true) ∧ Gr w' w2) := fun w' a b c c2 h1 h2 => rSame_any fr tx ep sq ae ac k r n L d y a b c c2 w' h1 h2 (by omega)
    clear he hs d4 dd
    go_enter Tryz.func5, Tryz.ntmps5
    go_wp2_with fail
    refine (HD.out _ ?_).mono ?_
    · exact (by repeat (first | exact Gr.refl _ | refine Gr.alloc ?_ | refine Gr.drew ?_ | refine Gr.trans ?_ (by assumption)))
    rintro e1 w1 ⟨a1, c1, rfl, h1, hg1⟩
    have H1 := Lib.hid h1
    have B1 := Lib.hid (Cs.new w1 [.int .i64 fr, .int .i64 tx, .int .i64 ep, .int .i64 sq, .int .i64 ae, .int .i64 ac, .int .i64 k, .int .i64 r, .int .i64 n, .slice a1 L.length c1, .string d, .int .i64 y] 39 _ rfl)
    have G1 : Gr w w1 := (by repeat (first | exact Gr.refl _ | refine Gr.alloc ?_ | refine Gr.drew ?_ | refine Gr.trans ?_ (by assumption)))
    clear h1 hg1
    go_wp2_with fail
    refine (HR.out _).mono ?_
    rintro e2 w2 ⟨a2, c2, rfl, h2, hg2⟩
    have B2 := B1.out.gr hg2
    have H2 := Lib.hid ((H1.out.alloc.gr hg2).alloc (ob := .cells #[.int .i64 fr, .int .i64 tx, .int .i64 ep, .int .i64 sq, .int .i64 ae, .int .i64 ac, .int .i64 k, .int .i64 r, .int .i64 n, .slice a2 L.length c2, .string d, .int .i64 y] 39))
    have K2 := Lib.hid (h2.alloc (ob := .cells #[.int .i64 fr, .int .i64 tx, .int .i64 ep, .int .i64 sq, .int .i64 ae, .int .i64 ac, .int .i64 k, .int .i64 r, .int .i64 n, .slice a2 L.length c2, .string d, .int .i64 y] 39))
    have G2 : Gr w w2 := G1.alloc.trans hg2
    have c0 := B2.at_ 0 _ rfl
    have c1 := B2.at_ 1 _ rfl
    have c2 := B2.at_ 2 _ rfl
    have c3 := B2.at_ 3 _ rfl
    have c4 := B2.at_ 4 _ rfl
    have c5 := B2.at_ 5 _ rfl
    have c6 := B2.at_ 6 _ rfl
    have c7 := B2.at_ 7 _ rfl
    have c8 := B2.at_ 8 _ rfl
    have c9 := B2.at_ 9 _ rfl
    have c10 := B2.at_ 10 _ rfl
    have c11 := B2.at_ 11 _ rfl
    have cf0 := B2.fz 0 (by simp)
    have cf1 := B2.fz 1 (by simp)
    have cf2 := B2.fz 2 (by simp)
    have cf3 := B2.fz 3 (by simp)
    have cf4 := B2.fz 4 (by simp)
    have cf5 := B2.fz 5 (by simp)
    have cf6 := B2.fz 6 (by simp)
    have cf7 := B2.fz 7 (by simp)
    have cf8 := B2.fz 8 (by simp)
    have cf9 := B2.fz 9 (by simp)
    have cf10 := B2.fz 10 (by simp)
    have cf11 := B2.fz 11 (by simp)
    have clt := B2.lt
    clear h2 hg2 B2 B1 H1 G1
    go_wp2_with fail
    refine (HS.out _ _ _ _ _ H2.out K2.out).mono ?_
    rintro e3 w3 ⟨rfl, hg3⟩
    have G3 : Gr w w3 := G2.alloc.trans hg3
    clear hg3 G2
    go_wp2_with fail
    refine (HA.out _ G3).mono ?_
    rintro e4 w4 ⟨rfl, hg4⟩
    have G4 : Gr w w4 := G3.trans hg4
    go_wp2
    go_ret
    exact ⟨rfl, G4⟩
  · have hl' : (40000 : Int) < (s.size : Int) := by omega
    clear he
    go_enter Tryz.func5, Tryz.ntmps5
    go_wp2_with fail
    refine (HA.out _ ?_).mono ?_
    · exact (by repeat (first | exact Gr.refl _ | refine Gr.alloc ?_ | refine Gr.drew ?_ | refine Gr.trans ?_ (by assumption)))
    rintro e1 w1 ⟨rfl, hg1⟩
    go_wp2
    go_ret
    exact ⟨rfl, (by repeat (first | exact Gr.refl _ | refine Gr.alloc ?_ | refine Gr.drew ?_ | refine Gr.trans ?_ (by assumption)))⟩

set_option maxRecDepth 100000 in
theorem noteDecodes_lifted (os : Os) (started : os.Started) (H : Type) (enc : TypeId × Value → H) :
    ReturnsInHanded {} Tryz.checked os 5 .any (fun w args => (Rows.noteDecodesSpec.pre enc Tryz.prog Tryz.f5 [] false w args ∧ laidMetH Tryz.prog laidL w) ∧ sizedMet enc Tryz.prog Tryz.f5 (OpenSpec.ofChange Rows.noteDecodesSpec) false w args)
      (Rows.noteDecodesSpec.post enc Tryz.prog Tryz.f5 false true false false) := by
  refine returnsInHanded_of_change_and (C := Tryz.checked) (X := fun w _ => laidMetH Tryz.prog laidL w) (fun _ _ _ hh h => h.of_heap hh) own2 started (by kernel_rfl) Tryz.func5
    (ChangeSpec.witness_shaped (enc := enc) (C := Tryz.checked) (os := os) (X := fun w _ => laidMetH Tryz.prog laidL w) false (World.doorLaid Tryz.prog 400 os) #[.string ⟨#[]⟩] 8 rfl (World.shaped_of_RefB (by kernel_rfl) (by kernel_rfl)) (by kernel_rfl) (by kernel_rfl) (by kernel_rfl) (door_met os _)) ?_
  intro W base args ds gs before hval0 hW _ hsz0 hL _
  have hval : ∀ (j : Nat) t v, Tryz.f5.params[j]? = some t → args[j]? = some v → Value.okWide Tryz.prog W .any base t v := hval0
  have hsz : (DataW.weightsEach Tryz.prog (Tryz.f5.params.toList ++ Rows.noteDecodesSpec.plain.varTypes Tryz.prog) (ds ++ gs)).all (· ≤ reachBytes) = true := hsz0
  have hW' := hW
  obtain ⟨p, q, hA0, hV, rfl, hfz, hnd⟩ := hW
  have hA : DataW.TrodAll enc Tryz.prog W 0 (fun _ => true) true Tryz.f5.params.toList args.toList ds p := hA0
  rw [Tryz.params5] at hA hval hsz
  obtain ⟨v0, d0, rfl, rfl, h0⟩ := trodAll_one hA
  obtain ⟨rfl, rfl⟩ := trodVars_none hV
  obtain ⟨a0, rfl, rfl, rfl, wa0⟩ := open_string Tryz.underlying9 (hval 0 9 v0 rfl rfl) h0
  have hr0 : a0.size ≤ 140737488355328 := by
    have hr := sized_string hsz (j := 0) (t := 9) rfl rfl
    have : a0.data.toList.length = a0.size := by simp
    simp only [reachBytes] at hr
    omega
  clear hA0 hval0
  have hT := env_of_laid hL
  refine (noteDecodes_walk a0 W hT hr0).mono fun e W' ⟨he, hg⟩ => ?_
  subst he
  exact ⟨_, rfl, _, _, _, [], _, [], hW', trodAll_mk1 (shut_bool Tryz.underlying4 _), trodAll_mk1 (shut_string Tryz.underlying9 wa0), rfl, hg.below.frame _, fun h => by cases h⟩

theorem noteDecodes_holds : Rows.NoteDecodesSaid :=
  OpenClaim.holds_of_wide 5 Tryz.f5 rfl rfl rfl rfl rfl rfl rfl ⟨rfl, rfl, rfl, rfl, rfl⟩ rfl rfl rfl rfl rfl (by kernel_rfl) Tryz.func5 (by kernel_rfl)
    (of_decide_eq_true (by kernel_rfl)) (by unfold Func.isWrapper; first | (rw [if_pos (by decide +kernel)]; kernel_rfl) | (rw [if_neg (by decide +kernel)]; exact ⟨rfl, rfl⟩))
    (fun os started H enc _ => noteDecodes_lifted os started H enc)

theorem noteDecodes_card_holds : Rows.NoteDecodesCardSaid :=
  Claim7.holds_tied_plain_at .later [] [.data, .data, .data, .sentinel, .sentinel, .data, .data] true (true, "f0fa4e2e6549f31233243eab08a94723d74d26bc049039476799d23fce00b93f") true
    noteDecodes_holds (fun _ h => by cases h) (by kernel_rfl) (fun _ h => by cases h) noteDecodes_row_tie rfl ⟨rfl, rfl⟩ (by kernel_rfl) rfl
    (fun f fn hf hfn => by
      obtain rfl : f = 5 := Option.some.inj ((show Tryz.prog.funcNamed "entente/ententelaw13.NoteDecodes" = some 5 by kernel_rfl).symm.trans hf) |>.symm
      obtain rfl : fn = Tryz.f5 := (Option.some.inj (Tryz.func5.symm.trans hfn)).symm
      exact ⟨by kernel_rfl, fun j t ht => by
        rw [Tryz.params5] at ht
        have hm : t ∈ [9] := by simpa using Array.mem_of_getElem? ht
        have hall : ([9].all fun u => !Tryz.prog.wantsStandIn u) = true := by kernel_rfl
        exact (show Tryz.prog.wantsStandIn t = false by simpa using List.all_eq_true.1 hall t hm)⟩)
    (by kernel_rfl)
end Go.Proofs.YtcmbppjfpdkblaaGreatDoor
