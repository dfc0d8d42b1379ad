/- For every input the law CashTexts answers true: any amount is written, and any text read, as the document says, or refused. -/
import Derived.Test.YtmidlcipbpchgabDoorLaidC
import Derived.Test.YtmidlcipbpchgabDoorCashK
import Derived.Test.YtmidlcipbpchgabDoorCashQ
import Derived.SevenTiedAt
namespace Go.Proofs.YtmidlcipbpchgabDoor
open Go.ChangeShapes Go.WideShapes Go.ChangeAt Go.RowKit
open Go.ChangeMaps (open_string shut_string)

set_option maxHeartbeats 4000000 in
set_option maxRecDepth 100000 in
theorem cashTexts_walk (a : Int) (s : ByteArray) (w : World) (he : Env w) (ha : -9223372036854775808 ≤ a) (ha1 : a ≤ 9223372036854775807) (hs : s.size ≤ 140737488355328) :
    Calls Tryd.prog 6 #[.int .i64 a, .string s] w fun e w' => e = .returned (.bool true) ∧ Gr w w' := by
  have HA : Hid (∀ w', Gr w w' → Calls Tryd.prog 19 #[] w' fun e w2 => e = .returned (.bool true) ∧ Gr w' w2) := fun w' g => awake_any w' (he.gr g)
  have H1 : Hid (∀ w', Gr w w' → Calls Tryd.prog 28 #[.int .i64 a] w' fun e w2 => e = .returned (.string ⟨(Csh.showE a).toArray⟩) ∧ Gr w' w2) := fun w' g => show_any a w' ha ha1 (he.gr g)
  have H2 : Hid (∀ w' : World, Calls Tryd.prog 29 #[.int .i64 a] w' fun e w2 => e = .returned (.string ⟨(Csh.showE a).toArray⟩) ∧ w2 = w') := fun w' => refShow_any a w' ha ha1
  have h3 : Calls Tryd.prog 26 #[.string s] w fun e w' => e = .returned (.tuple #[.int .i64 (if Csh.parE s.data.toList = true then Csh.readE s.data.toList else 0), .int .i64 (if Csh.parE s.data.toList = true then 0 else 40)]) ∧ Gr w w' := parse_any s w (by omega) he
  have h4 : ∀ w' : World, Calls Tryd.prog 27 #[.string s] w' fun e w2 => e = .returned (.tuple #[.int .i64 (optV (Csh.refE s.data.toList)), .int .i64 (optE (Csh.refE s.data.toList))]) ∧ w2 = w' := fun w' => refParse_any s w' (by omega)
  have e1 : optV (Csh.refE s.data.toList) = if Csh.parE s.data.toList = true then Csh.readE s.data.toList else 0 := by
    rw [Csh.ref_par]; split <;> rfl
  have e2 : optE (Csh.refE s.data.toList) = if Csh.parE s.data.toList = true then 0 else 40 := by
    rw [Csh.ref_par]; split <;> rfl
  rw [e1, e2] at h4
  generalize (if Csh.parE s.data.toList = true then Csh.readE s.data.toList else 0) = x at *
  generalize (if Csh.parE s.data.toList = true then (0 : Int) else 40) = y at *
  generalize Csh.showE a = u at *
  have H3 : Hid (Calls Tryd.prog 26 #[.string s] w fun e w' => e = .returned (.tuple #[.int .i64 x, .int .i64 y]) ∧ Gr w w') := h3
  have H4 : Hid (∀ w' : World, Calls Tryd.prog 27 #[.string s] w' fun e w2 => e = .returned (.tuple #[.int .i64 x, .int .i64 y]) ∧ w2 = w') := h4
  have q1 : (x == x) = true := by simp
  have q2 : (y == y) = true := by simp
  have q3 : (u == u) = true := by simp
  clear he h3 h4 e1 e2
  go_enter Tryd.func6, Tryd.ntmps6
  go_wp2_with fail
  refine H3.out.mono ?_
  rintro e w1 ⟨rfl, hg1⟩
  have G1 : Hid (Gr w w1) := hg1
  clear hg1
  go_wp2_with fail
  refine (H4.out _).mono ?_
  rintro e w2 ⟨rfl, hw2⟩; obtain rfl := hw2.symm
  go_wp2_with fail
  refine (H1.out _ G1.out).mono ?_
  rintro e w3 ⟨rfl, hg3⟩
  have G3 : Hid (Gr w w3) := G1.out.trans hg3
  clear hg3
  go_wp2_with fail
  refine (H2.out _).mono ?_
  rintro e w4 ⟨rfl, hw4⟩; obtain rfl := hw4.symm
  go_wp2_with fail
  refine (HA.out _ G3.out).mono ?_
  rintro e w5 ⟨rfl, hg5⟩
  go_wp2
  go_ret
  exact ⟨rfl, G3.out.trans hg5⟩

set_option maxRecDepth 100000 in
theorem cashTexts_lifted (os : Os) (started : os.Started) (H : Type) (enc : TypeId × Value → H) :
    ReturnsInHanded {} Tryd.checked os 6 .any (fun w args => (Rows.cashTextsSpec.pre enc Tryd.prog Tryd.f6 [] false w args ∧ laidMetH Tryd.prog laidL w) ∧ sizedMet enc Tryd.prog Tryd.f6 (OpenSpec.ofChange Rows.cashTextsSpec) false w args)
      (Rows.cashTextsSpec.post enc Tryd.prog Tryd.f6 false true false false) := by
  refine returnsInHanded_of_change_and (C := Tryd.checked) (X := fun w _ => laidMetH Tryd.prog laidL w) (fun _ _ _ hh h => h.of_heap hh) own2 started (by kernel_rfl) Tryd.func6
    (ChangeSpec.witness_shaped (enc := enc) (C := Tryd.checked) (os := os) (X := fun w _ => laidMetH Tryd.prog laidL w) false (World.doorLaid Tryd.prog 400 os) #[.int .i64 0, .string ⟨#[]⟩] 8 rfl (World.shaped_of_RefB (by kernel_rfl) (by kernel_rfl)) (by kernel_rfl) (by kernel_rfl) (by kernel_rfl) (door_met os _)) ?_
  intro W base args ds gs before hval0 hW _ hsz0 hL _
  have hval : ∀ (j : Nat) t v, Tryd.f6.params[j]? = some t → args[j]? = some v → Value.okWide Tryd.prog W .any base t v := hval0
  have hsz : (DataW.weightsEach Tryd.prog (Tryd.f6.params.toList ++ Rows.cashTextsSpec.plain.varTypes Tryd.prog) (ds ++ gs)).all (· ≤ reachBytes) = true := hsz0
  have hW' := hW
  obtain ⟨p, q, hA0, hV, rfl, hfz, hnd⟩ := hW
  have hA : DataW.TrodAll enc Tryd.prog W 0 (fun _ => true) true Tryd.f6.params.toList args.toList ds p := hA0
  rw [Tryd.params6] at hA hval hsz
  obtain ⟨v0, v1, d0, d1, p0, p1, rfl, rfl, rfl, h0, h1⟩ := trodAll_two hA
  obtain ⟨rfl, rfl⟩ := trodVars_none hV
  obtain ⟨a0, rfl, rfl, rfl, wa0⟩ := open_int Tryd.underlying2 (hval 0 2 v0 rfl rfl) h0
  have rg0 := rng_i64 wa0
  obtain ⟨a1, rfl, rfl, rfl, wa1⟩ := open_string Tryd.underlying9 (hval 1 9 v1 rfl rfl) h1
  have hr1 : a1.size ≤ 140737488355328 := by
    have hr := sized_string hsz (j := 1) (t := 9) rfl rfl
    have : a1.data.toList.length = a1.size := by simp
    simp only [reachBytes] at hr
    omega
  clear hA0 hval0
  have hT := env_of_laid hL
  refine (cashTexts_walk a0 a1 W hT rg0.1 rg0.2 hr1).mono fun e W' ⟨he, hg⟩ => ?_
  subst he
  exact ⟨_, rfl, _, _, _, [], _, [], hW', trodAll_mk1 (shut_bool Tryd.underlying4 _), trodAll_mk2 (shut_int Tryd.underlying2 wa0) (shut_string Tryd.underlying9 wa1), rfl, hg.below.frame _, fun h => by cases h⟩

theorem cashTexts_holds : Rows.CashTextsSaid :=
  OpenClaim.holds_of_wide 6 Tryd.f6 rfl rfl rfl rfl rfl rfl rfl ⟨rfl, rfl, rfl, rfl, rfl⟩ rfl rfl rfl rfl rfl (by kernel_rfl) Tryd.func6 (by kernel_rfl)
    (of_decide_eq_true (by kernel_rfl)) (by unfold Func.isWrapper; first | (rw [if_pos (by decide +kernel)]; kernel_rfl) | (rw [if_neg (by decide +kernel)]; exact ⟨rfl, rfl⟩))
    (fun os started H enc _ => cashTexts_lifted os started H enc)

theorem cashTexts_card_holds : Rows.CashTextsCardSaid :=
  Claim7.holds_tied_plain_at .later [] [.data, .data, .data] true (true, "9a13fadc1322bc278e7fa5e9b49426233945e5fe552674b6b68a9f8865cee2ad") true
    cashTexts_holds (fun _ h => by cases h) (by kernel_rfl) (fun _ h => by cases h) cashTexts_row_tie rfl ⟨rfl, rfl⟩ (by kernel_rfl) rfl
    (fun f fn hf hfn => by
      obtain rfl : f = 6 := Option.some.inj ((show Tryd.prog.funcNamed "entente/ententelaw04.CashTexts" = some 6 by kernel_rfl).symm.trans hf) |>.symm
      obtain rfl : fn = Tryd.f6 := (Option.some.inj (Tryd.func6.symm.trans hfn)).symm
      exact ⟨by kernel_rfl, fun j t ht => by
        rw [Tryd.params6] at ht
        have hm : t ∈ [2, 9] := by simpa using Array.mem_of_getElem? ht
        have hall : ([2, 9].all fun u => !Tryd.prog.wantsStandIn u) = true := by kernel_rfl
        exact (show Tryd.prog.wantsStandIn t = false by simpa using List.all_eq_true.1 hall t hm)⟩)
    (by kernel_rfl)
end Go.Proofs.YtmidlcipbpchgabDoor
