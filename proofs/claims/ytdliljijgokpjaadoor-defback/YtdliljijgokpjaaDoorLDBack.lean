/- For every input the law DefBack answers true: a definition is read as it was written. -/
import Derived.Test.YtdliljijgokpjaaDoorOpenD
import Derived.Test.YtdliljijgokpjaaDoorAwkD
import Derived.Test.YtdliljijgokpjaaDoorRefDq
import Derived.Test.YtdliljijgokpjaaDoorDefZ
import Derived.SevenTiedAt
namespace Go.Proofs.YtdliljijgokpjaaDoor
open Go.ChangeShapes Go.WideShapes Go.ChangeAt Go.RowKit
open Go.ChangeMaps (open_string shut_string)
open Df (Stp defB chE tk pE pA pT pN pL)
open Lex (Tok scT scF scA ckE)

set_option maxHeartbeats 8000000 in
set_option maxRecDepth 100000 in
theorem defBack_walk (nm : ByteArray) (L : List Stp) (ad : Option Addr) (cap : Nat) (w : World) (he : Env w) (hs : nm.size ≤ 9223372036854775807) (hL : StpsAt w ad L) (hn : L.length ≤ 9223372036854775807) (hz : ∀ s ∈ L, inS s) :
    Calls Tryd.prog 6 #[.agg #[.string nm, .slice ad L.length cap]] w fun e w' => e = .returned (.bool true) ∧ Gr w w' := by
  have HA : Hid (∀ w', Gr w w' → Calls Tryd.prog 9 #[] w' fun e w2 => e = .returned (.bool true) ∧ Gr w' w2) := fun w' g => awake_any w' (he.gr g)
  have HF : Hid (∀ w', Calls Tryd.prog 8 #[.agg #[.string nm, .slice ad L.length cap]] w' fun e w2 => e = .returned (.bool (decide ((L.length : Int) ≤ 1000))) ∧ Gr w' w2) := fun w' => few_any nm L ad cap w'
  have HS : Hid (∀ w', Gr w w' → Calls Tryd.prog 10 #[.agg #[.string nm, .slice ad L.length cap]] w' fun e w2 => e = .returned (.tuple #[.string (shE nm L), .int .i64 (chE nm L)]) ∧ Gr w' w2) := fun w' g => dShow_any nm L ad cap w' (hL.gr g) hs hn hz (he.gr g)
  have HM : Hid (∀ (a : Option Addr) (c : Nat) (w' : World), Gr w w' → StpsAt w' a L → Calls Tryd.prog 14 #[.agg #[.string nm, .slice a L.length c], .agg #[.string nm, .slice ad L.length cap]] w' fun e w2 => e = .returned (.bool (samB nm L nm L)) ∧ Gr w' w2) := fun a c w' g h => dSame_any nm L a c nm L ad cap w' h (hL.gr g) hs hn hn hz
  have HQ : Hid (∀ (a : Option Addr) (c : Nat) (w' : World), Gr w w' → StpsAt w' a L → Calls Tryd.prog 18 #[.agg #[.string nm, .slice a L.length c], .agg #[.string nm, .slice ad L.length cap]] w' fun e w2 => e = .returned (.bool true) ∧ Gr w' w2) := fun a c w' g h => by
    have := refEqual_any nm L a c nm L ad cap w' h (hL.gr g) hn
    rw [show eqD nm L nm L = true by unfold eqD; rw [decide_eq_true rfl, (eqL_iff L L).2 rfl]; rfl] at this
    exact this
  have HL : Hid (StpsAt w ad L) := hL
  have HX0 := Lib.hid (TwoAt.new w (.string nm) (.slice ad L.length cap) 24 _ rfl)
  by_cases h1000 : (L.length : Int) ≤ 1000
  · rw [decide_eq_true h1000] at HF
    cases hd : defB nm L with
    | false =>
      rw [show shE nm L = ⟨#[]⟩ by unfold shE; rw [hd]; rfl, Df.ch_no hd] at HS
      rw [show samB nm L nm L = false by unfold samB; rw [hd]; rfl] at HM
      clear hd hL hz he h1000
      go_enter Tryd.func6, Tryd.ntmps6
      go_wp2_with fail
      refine (HF.out _).mono ?_
      rintro e w1 ⟨rfl, hg⟩
      have HG1 : Hid (Gr w w1) := (Gr.refl _).alloc.trans hg
      have HX1 := Lib.hid (HX0.out.gr hg)
      obtain ⟨x0, x1, _, _, xl⟩ := HX1.out
      clear hg
      go_wp2_with fail
      refine (HS.out _ HG1.out).mono ?_
      rintro e w2 ⟨rfl, hg⟩
      have HG2 : Hid (Gr w w2) := HG1.out.trans hg
      have HX2 := Lib.hid (HX1.out.gr hg)
      obtain ⟨y0, y1, _, _, yl⟩ := HX2.out
      clear hg x0 x1 xl
      go_wp2_with fail
      refine (HM.out ad cap _ HG2.out (HL.out.gr HG2.out)).mono ?_
      rintro e w3 ⟨rfl, hg⟩
      have HG3 : Hid (Gr w w3) := HG2.out.trans hg
      clear hg
      go_wp2_with fail
      refine (HA.out _ HG3.out).mono ?_
      rintro e w4 ⟨rfl, hg⟩
      have HG4 : Hid (Gr w w4) := HG3.out.trans hg
      clear hg
      go_wp2
      go_ret
      exact ⟨rfl, HG4.out⟩
    | true =>
      obtain ⟨b1, b2, b3, b4⟩ := back_text hd
      have HT : Hid (∀ w', Calls Tryd.prog 19 #[.string ⟨(shT nm L).toArray⟩] w' fun e w2 => TxR w' nm L 0 0 e w2) := fun w' => by
        have := dText_any ⟨(shT nm L).toArray⟩ w' (by have := shT_len hd; show (shT nm L).toArray.size ≤ _; simp; omega)
        rw [show (⟨(shT nm L).toArray⟩ : ByteArray).data.toList = shT nm L by simp, b1, b2, b3, b4] at this
        exact this
      rw [show shE nm L = ⟨(shT nm L).toArray⟩ by unfold shE; rw [hd]; rfl, Df.ch_yes hd] at HS
      rw [show samB nm L nm L = true by unfold samB; rw [hd, decide_eq_true rfl, (eqL_iff L L).2 rfl]; rfl] at HM
      generalize shT nm L = RT at *
      clear hd hL hz he h1000 b1 b2 b3 b4
      go_enter Tryd.func6, Tryd.ntmps6
      go_wp2_with fail
      refine (HF.out _).mono ?_
      rintro e w1 ⟨rfl, hg⟩
      have HG1 : Hid (Gr w w1) := (Gr.refl _).alloc.trans hg
      have HX1 := Lib.hid (HX0.out.gr hg)
      obtain ⟨x0, x1, _, _, xl⟩ := HX1.out
      clear hg
      go_wp2_with fail
      refine (HS.out _ HG1.out).mono ?_
      rintro e w2 ⟨rfl, hg⟩
      have HG2 : Hid (Gr w w2) := HG1.out.trans hg
      have HX2 := Lib.hid (HX1.out.gr hg)
      clear hg x0 x1 xl
      go_wp2_with fail
      refine (HT.out _).mono ?_
      rintro e w3 ⟨a, c, rfl, hst, _, _, hg⟩
      have HG3 : Hid (Gr w w3) := HG2.out.trans hg
      have HX3 := Lib.hid (HX2.out.gr hg)
      have HS3 := Lib.hid hst
      have HC3 := Lib.hid ((TwoAt.new w3 (.string nm) (.slice a L.length c) 24 _ rfl).gr (Gr.refl _).alloc (w' := (w3.alloc (.cells #[.string nm, .slice a L.length c] 24)).alloc (.cells #[.int .i64 0, .int .i64 0] 37)))
      obtain ⟨x0, x1, _, _, xl⟩ := HX3.out
      clear hst hg
      go_wp2_with fail
      refine (HQ.out a c _ HG3.out.alloc.alloc HS3.out.alloc.alloc).mono ?_
      rintro e w4 ⟨rfl, hg⟩
      have HG4 : Hid (Gr w w4) := HG3.out.alloc.alloc.trans hg
      have HS4 := Lib.hid ((HS3.out.alloc.alloc).gr hg)
      obtain ⟨y0, y1, _, _, yl⟩ := (HX3.out.gr ((Gr.refl _).alloc.alloc)).gr hg
      obtain ⟨z0, z1, _, _, zl⟩ := HC3.out.gr hg
      clear hg x0 x1 xl
      go_wp2_with fail
      refine (HM.out a c _ HG4.out HS4.out).mono ?_
      rintro e w5 ⟨rfl, hg⟩
      have HG5 : Hid (Gr w w5) := HG4.out.trans hg
      clear hg
      go_wp2_with fail
      refine (HA.out _ HG5.out).mono ?_
      rintro e w6 ⟨rfl, hg⟩
      have HG6 : Hid (Gr w w6) := HG5.out.trans hg
      clear hg
      go_wp2
      go_ret
      exact ⟨rfl, HG6.out⟩
  · rw [decide_eq_false h1000] at HF
    clear hL hz he h1000
    go_enter Tryd.func6, Tryd.ntmps6
    go_wp2_with fail
    refine (HF.out _).mono ?_
    rintro e w1 ⟨rfl, hg⟩
    have HG1 : Hid (Gr w w1) := (Gr.refl _).alloc.trans hg
    clear hg
    go_wp2_with fail
    refine (HA.out _ HG1.out).mono ?_
    rintro e w2 ⟨rfl, hg⟩
    have HG2 : Hid (Gr w w2) := HG1.out.trans hg
    clear hg
    go_wp2
    go_ret
    exact ⟨rfl, HG2.out⟩

set_option maxRecDepth 100000 in
theorem defBack_lifted (os : Os) (started : os.Started) (H : Type) (enc : TypeId × Value → H) :
    ReturnsInHanded {} Tryd.checked os 6 .any (fun w args => (Rows.defBackSpec.pre enc Tryd.prog Tryd.f6 [] false w args ∧ laidMetH Tryd.prog laidL w) ∧ sizedMet enc Tryd.prog Tryd.f6 (OpenSpec.ofChange Rows.defBackSpec) false w args)
      (Rows.defBackSpec.post enc Tryd.prog Tryd.f6 false true false false) := by
  refine returnsInHanded_of_change_and (C := Tryd.checked) (X := fun w _ => laidMetH Tryd.prog laidL w) (fun _ _ _ hh h => h.of_heap hh) own2 started (by kernel_rfl) Tryd.func6
    (ChangeSpec.witness_shaped (enc := enc) (C := Tryd.checked) (os := os) (X := fun w _ => laidMetH Tryd.prog laidL w) false (World.doorLaid Tryd.prog 400 os) #[.agg #[.string ⟨#[]⟩, .slice none 0 0]] 8 rfl (World.shaped_of_RefB (by kernel_rfl) (by kernel_rfl)) (by kernel_rfl) (by kernel_rfl) (by kernel_rfl) (door_met os _)) ?_
  intro W base args ds gs before hval0 hW _ hsz0 hL _
  have hval : ∀ (j : Nat) t v, Tryd.f6.params[j]? = some t → args[j]? = some v → Value.okWide Tryd.prog W .any base t v := hval0
  have hW' := hW
  obtain ⟨p, q, hA0, hV, rfl, hfz, hnd⟩ := hW
  have hA : DataW.TrodAll enc Tryd.prog W 0 (fun _ => true) true Tryd.f6.params.toList args.toList ds p := hA0
  rw [Tryd.params6] at hA hval
  obtain ⟨v0, d0, rfl, rfl, h0⟩ := trodAll_one hA
  obtain ⟨rfl, rfl⟩ := trodVars_none hV
  have k0 := h0
  have lt0 : ∀ x ∈ p, x.block < W.heap.size := by obtain ⟨m, hm⟩ := k0; exact DataW.trod_lt m _ _ _ hm
  obtain ⟨nm0, ad0, cap0, L0, rfl, hs0, hL0, hn0, hz0⟩ := open_def (hval 0 24 v0 rfl rfl) h0
  clear hA0 hval0
  have hE := env_of_laid hL
  refine (defBack_walk nm0 L0 ad0 cap0 W hE hs0 hL0 hn0 hz0).mono fun e W' ⟨he, hg⟩ => ?_
  subst he
  exact ⟨_, rfl, _, _, _, [], _, [], hW', trodAll_mk1 (shut_bool Tryd.underlying4 _), trodAll_mk1 (Below.trod laidOut2 (by kernel_rfl) (of_decide_eq_true (by kernel_rfl)) k0 hg.below lt0), rfl, hg.below.frame _, fun h => by cases h⟩

theorem defBack_holds : Rows.DefBackSaid :=
  OpenClaim.holds_of_wide 6 Tryd.f6 rfl rfl rfl rfl rfl rfl rfl ⟨rfl, rfl, rfl, rfl, rfl⟩ rfl rfl rfl rfl rfl (by kernel_rfl) Tryd.func6 (by kernel_rfl)
    (of_decide_eq_true (by kernel_rfl)) (by unfold Func.isWrapper; first | (rw [if_pos (by decide +kernel)]; kernel_rfl) | (rw [if_neg (by decide +kernel)]; exact ⟨rfl, rfl⟩))
    (fun os started H enc _ => defBack_lifted os started H enc)

theorem defBack_card_holds : Rows.DefBackCardSaid :=
  Claim7.holds_tied_plain_at .later [] [.data, .data, .data] true (true, "ae7bc6c80cafa693bbd408374e132e2c7b62b394d903cdd24dd968ac5e817c12") false
    defBack_holds (fun _ h => by cases h) (by kernel_rfl) (fun _ h => by cases h) defBack_row_tie rfl ⟨rfl, rfl⟩ (by kernel_rfl) rfl
    (fun f fn hf hfn => by
      obtain rfl : f = 6 := Option.some.inj ((show Tryd.prog.funcNamed "entente/ententelaw09.DefBack" = some 6 by kernel_rfl).symm.trans hf) |>.symm
      obtain rfl : fn = Tryd.f6 := (Option.some.inj (Tryd.func6.symm.trans hfn)).symm
      exact ⟨by kernel_rfl, fun j t ht => by
        rw [Tryd.params6] at ht
        have hm : t ∈ [24] := by simpa using Array.mem_of_getElem? ht
        have hall : ([24].all fun u => !Tryd.prog.wantsStandIn u) = true := by kernel_rfl
        exact (show Tryd.prog.wantsStandIn t = false by simpa using List.all_eq_true.1 hall t hm)⟩)
    (by kernel_rfl)
end Go.Proofs.YtdliljijgokpjaaDoor
