/- For every input the law DefWritten answers true: what was read, written, is read as the same. -/
import Derived.Test.YtdliljijgokpjaaDoorOpenD
import Derived.Test.YtdliljijgokpjaaDoorAwkD
import Derived.Test.YtdliljijgokpjaaDoorRefDq
import Derived.Test.YtdliljijgokpjaaDoorDefZ
import Derived.SevenTiedAt
namespace Go.Proofs.YtdliljijgokpjaaDoor
open Go.ChangeShapes Go.WideShapes Go.ChangeAt Go.RowKit
open Go.ChangeMaps (open_string shut_string)
open Df (Stp defB chE tk pE pA pT pN pL)
open Lex (Tok scT scF scA ckE)

set_option maxHeartbeats 8000000 in
set_option maxRecDepth 100000 in
theorem defWritten_walk (s : ByteArray) (w : World) (he : Env w) (hs : s.size ≤ 9223372036854775807) : Calls Tryd.prog 7 #[.string s] w fun e w' => e = .returned (.bool true) ∧ Gr w w' := by
  have HA : Hid (∀ w', Gr w w' → Calls Tryd.prog 9 #[] w' fun e w2 => e = .returned (.bool true) ∧ Gr w' w2) := fun w' g => awake_any w' (he.gr g)
  have HT : Hid (∀ w', Calls Tryd.prog 19 #[.string s] w' fun e w2 => TxR w' (tN s.data.toList) (tL s.data.toList) (tE s.data.toList) (tA s.data.toList) e w2) := fun w' => dText_any s w' hs
  by_cases h0 : tE s.data.toList = 0
  · have hd := read_may h0
    obtain ⟨b1, b2, b3, b4⟩ := back_text hd
    have hnl := (Df.def_iff _ _).1 hd
    have hsz : (tN s.data.toList).size ≤ 9223372036854775807 := by have := name_le hnl.1; omega
    have hln : (tL s.data.toList).length ≤ 9223372036854775807 := by have := hnl.2.2.1; omega
    have hz : ∀ x ∈ tL s.data.toList, inS x := fun x hx => stp_in (hnl.2.2.2 x hx)
    have HS : Hid (∀ (a : Option Addr) (c : Nat) (w' : World), Gr w w' → StpsAt w' a (tL s.data.toList) → Calls Tryd.prog 10 #[.agg #[.string (tN s.data.toList), .slice a (tL s.data.toList).length c]] w' fun e w2 => e = .returned (.tuple #[.string ⟨(shT (tN s.data.toList) (tL s.data.toList)).toArray⟩, .int .i64 0]) ∧ Gr w' w2) := fun a c w' g h => by
      have := dShow_any _ _ a c w' h hsz hln hz (he.gr g)
      rw [show shE (tN s.data.toList) (tL s.data.toList) = ⟨(shT (tN s.data.toList) (tL s.data.toList)).toArray⟩ by unfold shE; rw [hd]; rfl, Df.ch_yes hd] at this
      exact this
    have HB : Hid (∀ w', Calls Tryd.prog 19 #[.string ⟨(shT (tN s.data.toList) (tL s.data.toList)).toArray⟩] w' fun e w2 => TxR w' (tN s.data.toList) (tL s.data.toList) 0 0 e w2) := fun w' => by
      have := dText_any ⟨(shT (tN s.data.toList) (tL s.data.toList)).toArray⟩ w' (by have := shT_len hd; show (shT _ _).toArray.size ≤ _; simp; omega)
      rw [show (⟨(shT (tN s.data.toList) (tL s.data.toList)).toArray⟩ : ByteArray).data.toList = shT (tN s.data.toList) (tL s.data.toList) by simp, b1, b2, b3, b4] at this
      exact this
    have HQ : Hid (∀ (a b : Option Addr) (c d : Nat) (w' : World), StpsAt w' a (tL s.data.toList) → StpsAt w' b (tL s.data.toList) → Calls Tryd.prog 18 #[.agg #[.string (tN s.data.toList), .slice a (tL s.data.toList).length c], .agg #[.string (tN s.data.toList), .slice b (tL s.data.toList).length d]] w' fun e w2 => e = .returned (.bool true) ∧ Gr w' w2) := fun a b c d w' h1 h2 => by
      have := refEqual_any (tN s.data.toList) (tL s.data.toList) a c (tN s.data.toList) (tL s.data.toList) b d w' h1 h2 hln
      rw [show eqD (tN s.data.toList) (tL s.data.toList) (tN s.data.toList) (tL s.data.toList) = true by unfold eqD; rw [decide_eq_true rfl, (eqL_iff _ _).2 rfl]; rfl] at this
      exact this
    have HC : Hid (∀ (a : Option Addr) (c : Nat) (w' : World), StpsAt w' a (tL s.data.toList) → Calls Tryd.prog 12 #[.agg #[.string (tN s.data.toList), .slice a (tL s.data.toList).length c]] w' fun e w2 => e = .returned (.int .i64 0) ∧ Gr w' w2) := fun a c w' h => by
      have := dCheck_any _ _ a c w' h hsz hln hz
      rw [Df.ch_yes hd] at this
      exact this
    rw [h0] at HT
    generalize tA s.data.toList = TA at *
    generalize shT (tN s.data.toList) (tL s.data.toList) = RT at *
    generalize tN s.data.toList = NM at *
    generalize tL s.data.toList = L at *
    clear hd hz he h0 b1 b2 b3 b4 hnl hsz
    go_enter Tryd.func7, Tryd.ntmps7
    go_wp2_with fail
    refine (HT.out _).mono ?_
    rintro e w1 ⟨a, c, rfl, hst, _, _, hg⟩
    have HG1 : Hid (Gr w w1) := hg
    have HS1 := Lib.hid hst
    have HD1 := Lib.hid ((TwoAt.new w1 (.string NM) (.slice a L.length c) 24 _ rfl).gr (Gr.refl _).alloc (w' := (w1.alloc (.cells #[.string NM, .slice a L.length c] 24)).alloc (.cells #[.int .i64 0, .int .i64 TA] 37)))
    clear hst hg
    go_wp2_with fail
    refine (HS.out a c _ HG1.out.alloc.alloc HS1.out.alloc.alloc).mono ?_
    rintro e w2 ⟨rfl, hg⟩
    have HG2 : Hid (Gr w w2) := HG1.out.alloc.alloc.trans hg
    have HS2 := Lib.hid ((HS1.out.alloc.alloc).gr hg)
    have HD2 := Lib.hid (HD1.out.gr hg)
    clear hg
    go_wp2_with fail
    refine (HB.out _).mono ?_
    rintro e w3 ⟨a3, c3, rfl, hst, _, _, hg⟩
    have HG3 : Hid (Gr w w3) := HG2.out.trans hg
    have HS3 := Lib.hid (HS2.out.gr hg)
    have HD3 := Lib.hid (HD2.out.gr hg)
    have HT3 := Lib.hid hst
    obtain ⟨x0, x1, _, _, xl⟩ := HD3.out
    clear hst hg
    go_wp2_with fail
    refine (HQ.out a3 a c3 c _ HT3.out.alloc.alloc HS3.out.alloc.alloc).mono ?_
    rintro e w4 ⟨rfl, hg⟩
    have HG4 : Hid (Gr w w4) := HG3.out.alloc.alloc.trans hg
    have HS4 := Lib.hid ((HS3.out.alloc.alloc).gr hg)
    obtain ⟨y0, y1, _, _, yl⟩ := (HD3.out.gr ((Gr.refl _).alloc.alloc)).gr hg
    clear hg x0 x1 xl
    go_wp2_with fail
    refine (HC.out a c _ HS4.out).mono ?_
    rintro e w5 ⟨rfl, hg⟩
    have HG5 : Hid (Gr w w5) := HG4.out.trans hg
    clear hg
    go_wp2_with fail
    refine (HA.out _ HG5.out).mono ?_
    rintro e w6 ⟨rfl, hg⟩
    have HG6 : Hid (Gr w w6) := HG5.out.trans hg
    clear hg
    go_wp2
    go_ret
    exact ⟨rfl, HG6.out⟩
  · have e0 : (tE s.data.toList != 0) = true := by simpa using h0
    have HQ : Hid (∀ (a : Option Addr) (c : Nat) (w' : World), Calls Tryd.prog 18 #[.agg #[.string ⟨#[]⟩, .slice a 0 c], .agg #[.string ⟨#[]⟩, .slice none 0 0]] w' fun e w2 => e = .returned (.bool true) ∧ Gr w' w2) := fun a c w' => refEqual_any ⟨#[]⟩ [] a c ⟨#[]⟩ [] none 0 w' RowAt.nil RowAt.nil (by decide)
    rw [show tN s.data.toList = ⟨#[]⟩ by unfold tN; rw [if_neg h0], show tL s.data.toList = [] by unfold tL; rw [if_neg h0]] at HT
    generalize tE s.data.toList = TE at *
    generalize tA s.data.toList = TA at *
    clear he h0
    go_enter Tryd.func7, Tryd.ntmps7
    go_wp2_with fail
    refine (HT.out _).mono ?_
    rintro e w1 ⟨a, c, rfl, hst, _, _, hg⟩
    have HG1 : Hid (Gr w w1) := hg
    clear hst hg
    go_wp2_with fail
    refine (HQ.out a c _).mono ?_
    rintro e w2 ⟨rfl, hg⟩
    have HG2 : Hid (Gr w w2) := HG1.out.alloc.alloc.trans hg
    clear hg
    go_wp2_with fail
    refine (HA.out _ HG2.out).mono ?_
    rintro e w3 ⟨rfl, hg⟩
    have HG3 : Hid (Gr w w3) := HG2.out.trans hg
    clear hg
    go_wp2
    go_ret
    exact ⟨rfl, HG3.out⟩

set_option maxRecDepth 100000 in
theorem defWritten_lifted (os : Os) (started : os.Started) (H : Type) (enc : TypeId × Value → H) :
    ReturnsInHanded {} Tryd.checked os 7 .any (fun w args => (Rows.defWrittenSpec.pre enc Tryd.prog Tryd.f7 [] false w args ∧ laidMetH Tryd.prog laidL w) ∧ sizedMet enc Tryd.prog Tryd.f7 (OpenSpec.ofChange Rows.defWrittenSpec) false w args)
      (Rows.defWrittenSpec.post enc Tryd.prog Tryd.f7 false true false false) := by
  refine returnsInHanded_of_change_and (C := Tryd.checked) (X := fun w _ => laidMetH Tryd.prog laidL w) (fun _ _ _ hh h => h.of_heap hh) own2 started (by kernel_rfl) Tryd.func7
    (ChangeSpec.witness_shaped (enc := enc) (C := Tryd.checked) (os := os) (X := fun w _ => laidMetH Tryd.prog laidL w) false (World.doorLaid Tryd.prog 400 os) #[.string ⟨#[]⟩] 8 rfl (World.shaped_of_RefB (by kernel_rfl) (by kernel_rfl)) (by kernel_rfl) (by kernel_rfl) (by kernel_rfl) (door_met os _)) ?_
  intro W base args ds gs before hval0 hW _ hsz0 hL _
  have hval : ∀ (j : Nat) t v, Tryd.f7.params[j]? = some t → args[j]? = some v → Value.okWide Tryd.prog W .any base t v := hval0
  have hW' := hW
  obtain ⟨p, q, hA0, hV, rfl, hfz, hnd⟩ := hW
  have hA : DataW.TrodAll enc Tryd.prog W 0 (fun _ => true) true Tryd.f7.params.toList args.toList ds p := hA0
  rw [Tryd.params7] at hA hval
  obtain ⟨v0, d0, rfl, rfl, h0⟩ := trodAll_one hA
  obtain ⟨rfl, rfl⟩ := trodVars_none hV
  obtain ⟨a0, rfl, rfl, rfl, wa0⟩ := open_string Tryd.underlying9 (hval 0 9 v0 rfl rfl) h0
  have hr0 := len_max wa0
  clear hA0 hval0
  have hE := env_of_laid hL
  refine (defWritten_walk a0 W hE hr0).mono fun e W' ⟨he, hg⟩ => ?_
  subst he
  exact ⟨_, rfl, _, _, _, [], _, [], hW', trodAll_mk1 (shut_bool Tryd.underlying4 _), trodAll_mk1 (shut_string Tryd.underlying9 wa0), rfl, hg.below.frame _, fun h => by cases h⟩

theorem defWritten_holds : Rows.DefWrittenSaid :=
  OpenClaim.holds_of_wide 7 Tryd.f7 rfl rfl rfl rfl rfl rfl rfl ⟨rfl, rfl, rfl, rfl, rfl⟩ rfl rfl rfl rfl rfl (by kernel_rfl) Tryd.func7 (by kernel_rfl)
    (of_decide_eq_true (by kernel_rfl)) (by unfold Func.isWrapper; first | (rw [if_pos (by decide +kernel)]; kernel_rfl) | (rw [if_neg (by decide +kernel)]; exact ⟨rfl, rfl⟩))
    (fun os started H enc _ => defWritten_lifted os started H enc)

theorem defWritten_card_holds : Rows.DefWrittenCardSaid :=
  Claim7.holds_tied_plain_at .later [] [.data, .data, .data] true (true, "ae7bc6c80cafa693bbd408374e132e2c7b62b394d903cdd24dd968ac5e817c12") false
    defWritten_holds (fun _ h => by cases h) (by kernel_rfl) (fun _ h => by cases h) defWritten_row_tie rfl ⟨rfl, rfl⟩ (by kernel_rfl) rfl
    (fun f fn hf hfn => by
      obtain rfl : f = 7 := Option.some.inj ((show Tryd.prog.funcNamed "entente/ententelaw09.DefWritten" = some 7 by kernel_rfl).symm.trans hf) |>.symm
      obtain rfl : fn = Tryd.f7 := (Option.some.inj (Tryd.func7.symm.trans hfn)).symm
      exact ⟨by kernel_rfl, fun j t ht => by
        rw [Tryd.params7] at ht
        have hm : t ∈ [9] := by simpa using Array.mem_of_getElem? ht
        have hall : ([9].all fun u => !Tryd.prog.wantsStandIn u) = true := by kernel_rfl
        exact (show Tryd.prog.wantsStandIn t = false by simpa using List.all_eq_true.1 hall t hm)⟩)
    (by kernel_rfl)
end Go.Proofs.YtdliljijgokpjaaDoor
