/- For every input the law CashBack answers true: an amount is read as it was written, and what is read is written as it stood. -/
import Derived.Test.YtmidlcipbpchgacDoorLaidC
import Derived.Test.YtmidlcipbpchgacDoorCashK
import Derived.SevenTiedAt
namespace Go.Proofs.YtmidlcipbpchgacDoor
open Go.ChangeShapes Go.WideShapes Go.ChangeAt Go.RowKit
open Go.ChangeMaps (open_string shut_string)

set_option maxHeartbeats 4000000 in
set_option maxRecDepth 100000 in
theorem cashBack_walk (a : Int) (s : ByteArray) (w : World) (he : Env w) (ha : -9223372036854775808 ≤ a) (ha1 : a ≤ 9223372036854775807) (hs : s.size ≤ 140737488355328) :
    Calls Tryd.prog 3 #[.int .i64 a, .string s] w fun e w' => e = .returned (.bool true) ∧ Gr w w' := by
  have HA : Hid (∀ w', Gr w w' → Calls Tryd.prog 6 #[] w' fun e w2 => e = .returned (.bool true) ∧ Gr w' w2) := fun w' g => awake_any w' (he.gr g)
  have H1 : Hid (Calls Tryd.prog 5 #[.int .i64 a] w fun e w' => e = .returned (.string ⟨(Csh.showE a).toArray⟩) ∧ Gr w w') := show_any a w ha ha1 he
  have H2 : Hid (∀ w', Gr w w' → Calls Tryd.prog 4 #[.string ⟨(Csh.showE a).toArray⟩] w' fun e w2 => e = .returned (.tuple #[.int .i64 a, .int .i64 0]) ∧ Gr w' w2) := by
    intro w' g
    have hl := Csh.show_len a ha ha1
    have := parse_any ⟨(Csh.showE a).toArray⟩ w' (by simp [ByteArray.size]; omega) (he.gr g)
    rw [show (⟨(Csh.showE a).toArray⟩ : ByteArray).data.toList = Csh.showE a by simp, Csh.par_show a ha ha1, Csh.read_show a ha ha1] at this
    exact this
  have hr := Csh.readE_rng s.data.toList
  have h3 : ∀ w', Gr w w' → Calls Tryd.prog 4 #[.string s] w' fun e w2 => e = .returned (.tuple #[.int .i64 (if Csh.parE s.data.toList = true then Csh.readE s.data.toList else 0), .int .i64 (if Csh.parE s.data.toList = true then 0 else 40)]) ∧ Gr w' w2 := fun w' g => parse_any s w' (by omega) (he.gr g)
  have H4 : Hid (∀ w', Gr w w' → Calls Tryd.prog 5 #[.int .i64 (Csh.readE s.data.toList)] w' fun e w2 => e = .returned (.string ⟨(Csh.showE (Csh.readE s.data.toList)).toArray⟩) ∧ Gr w' w2) := fun w' g => show_any _ w' hr.1 hr.2 (he.gr g)
  have hb : (Csh.showE (Csh.readE s.data.toList) == s.toList) = Csh.parE s.data.toList := by
    rw [toList_data]
    unfold Csh.parE
    by_cases h : Csh.showE (Csh.readE s.data.toList) = s.data.toList
    · rw [decide_eq_true h]; exact beq_iff_eq.2 h
    · rw [decide_eq_false h]; exact beq_eq_false_iff_ne.2 h
  generalize Csh.showE (Csh.readE s.data.toList) = t at *
  generalize Csh.readE s.data.toList = c at *
  generalize Csh.showE a = u at *
  clear he hr
  have e1 : (a != a) = false := by simp
  cases hp : Csh.parE s.data.toList with
  | true =>
    rw [hp] at hb h3
    simp only [if_true] at h3
    have H3 : Hid (∀ w', Gr w w' → Calls Tryd.prog 4 #[.string s] w' fun e w2 => e = .returned (.tuple #[.int .i64 c, .int .i64 0]) ∧ Gr w' w2) := h3
    clear h3 hp
    go_enter Tryd.func3, Tryd.ntmps3
    go_wp2_with fail
    refine H1.out.mono ?_
    rintro e w1 ⟨rfl, hg1⟩
    go_wp2_with fail
    refine (H2.out _ hg1).mono ?_
    rintro e w2 ⟨rfl, hg2⟩
    have G2 : Hid (Gr w w2) := hg1.trans hg2
    clear hg1 hg2
    go_wp2_with fail
    refine (H3.out _ G2.out).mono ?_
    rintro e w3 ⟨rfl, hg3⟩
    have G3 : Hid (Gr w w3) := G2.out.trans hg3
    clear hg3
    go_wp2_with fail
    refine (H4.out _ G3.out).mono ?_
    rintro e w4 ⟨rfl, hg4⟩
    have G4 : Hid (Gr w w4) := G3.out.trans hg4
    clear hg4
    go_wp2_with fail
    refine (HA.out _ G4.out).mono ?_
    rintro e w5 ⟨rfl, hg5⟩
    go_wp2
    go_ret
    exact ⟨rfl, G4.out.trans hg5⟩
  | false =>
    rw [hp] at h3
    simp only [if_neg Bool.false_ne_true] at h3
    have H3 : Hid (∀ w', Gr w w' → Calls Tryd.prog 4 #[.string s] w' fun e w2 => e = .returned (.tuple #[.int .i64 0, .int .i64 40]) ∧ Gr w' w2) := h3
    clear h3 hp hb H4
    go_enter Tryd.func3, Tryd.ntmps3
    go_wp2_with fail
    refine H1.out.mono ?_
    rintro e w1 ⟨rfl, hg1⟩
    go_wp2_with fail
    refine (H2.out _ hg1).mono ?_
    rintro e w2 ⟨rfl, hg2⟩
    have G2 : Hid (Gr w w2) := hg1.trans hg2
    clear hg1 hg2
    go_wp2_with fail
    refine (H3.out _ G2.out).mono ?_
    rintro e w3 ⟨rfl, hg3⟩
    have G3 : Hid (Gr w w3) := G2.out.trans hg3
    clear hg3
    go_wp2_with fail
    refine (HA.out _ G3.out).mono ?_
    rintro e w5 ⟨rfl, hg5⟩
    go_wp2
    go_ret
    exact ⟨rfl, G3.out.trans hg5⟩

set_option maxRecDepth 100000 in
theorem cashBack_lifted (os : Os) (started : os.Started) (H : Type) (enc : TypeId × Value → H) :
    ReturnsInHanded {} Tryd.checked os 3 .any (fun w args => (Rows.cashBackSpec.pre enc Tryd.prog Tryd.f3 [] false w args ∧ laidMetH Tryd.prog laidL w) ∧ sizedMet enc Tryd.prog Tryd.f3 (OpenSpec.ofChange Rows.cashBackSpec) false w args)
      (Rows.cashBackSpec.post enc Tryd.prog Tryd.f3 false true false false) := by
  refine returnsInHanded_of_change_and (C := Tryd.checked) (X := fun w _ => laidMetH Tryd.prog laidL w) (fun _ _ _ hh h => h.of_heap hh) own2 started (by kernel_rfl) Tryd.func3
    (ChangeSpec.witness_shaped (enc := enc) (C := Tryd.checked) (os := os) (X := fun w _ => laidMetH Tryd.prog laidL w) false (World.doorLaid Tryd.prog 400 os) #[.int .i64 0, .string ⟨#[]⟩] 8 rfl (World.shaped_of_RefB (by kernel_rfl) (by kernel_rfl)) (by kernel_rfl) (by kernel_rfl) (by kernel_rfl) (door_met os _)) ?_
  intro W base args ds gs before hval0 hW _ hsz0 hL _
  have hval : ∀ (j : Nat) t v, Tryd.f3.params[j]? = some t → args[j]? = some v → Value.okWide Tryd.prog W .any base t v := hval0
  have hsz : (DataW.weightsEach Tryd.prog (Tryd.f3.params.toList ++ Rows.cashBackSpec.plain.varTypes Tryd.prog) (ds ++ gs)).all (· ≤ reachBytes) = true := hsz0
  have hW' := hW
  obtain ⟨p, q, hA0, hV, rfl, hfz, hnd⟩ := hW
  have hA : DataW.TrodAll enc Tryd.prog W 0 (fun _ => true) true Tryd.f3.params.toList args.toList ds p := hA0
  rw [Tryd.params3] at hA hval hsz
  obtain ⟨v0, v1, d0, d1, p0, p1, rfl, rfl, rfl, h0, h1⟩ := trodAll_two hA
  obtain ⟨rfl, rfl⟩ := trodVars_none hV
  obtain ⟨a0, rfl, rfl, rfl, wa0⟩ := open_int Tryd.underlying2 (hval 0 2 v0 rfl rfl) h0
  have rg0 := rng_i64 wa0
  obtain ⟨a1, rfl, rfl, rfl, wa1⟩ := open_string Tryd.underlying9 (hval 1 9 v1 rfl rfl) h1
  have hr1 : a1.size ≤ 140737488355328 := by
    have hr := sized_string hsz (j := 1) (t := 9) rfl rfl
    have : a1.data.toList.length = a1.size := by simp
    simp only [reachBytes] at hr
    omega
  clear hA0 hval0
  have hT := env_of_laid hL
  refine (cashBack_walk a0 a1 W hT rg0.1 rg0.2 hr1).mono fun e W' ⟨he, hg⟩ => ?_
  subst he
  exact ⟨_, rfl, _, _, _, [], _, [], hW', trodAll_mk1 (shut_bool Tryd.underlying4 _), trodAll_mk2 (shut_int Tryd.underlying2 wa0) (shut_string Tryd.underlying9 wa1), rfl, hg.below.frame _, fun h => by cases h⟩

theorem cashBack_holds : Rows.CashBackSaid :=
  OpenClaim.holds_of_wide 3 Tryd.f3 rfl rfl rfl rfl rfl rfl rfl ⟨rfl, rfl, rfl, rfl, rfl⟩ rfl rfl rfl rfl rfl (by kernel_rfl) Tryd.func3 (by kernel_rfl)
    (of_decide_eq_true (by kernel_rfl)) (by unfold Func.isWrapper; first | (rw [if_pos (by decide +kernel)]; kernel_rfl) | (rw [if_neg (by decide +kernel)]; exact ⟨rfl, rfl⟩))
    (fun os started H enc _ => cashBack_lifted os started H enc)

theorem cashBack_card_holds : Rows.CashBackCardSaid :=
  Claim7.holds_tied_plain_at .later [] [.data, .data, .data] true (true, "c2fd41b6922e1b8a619adf12e8c116d39dd6347df0ed2e56b016b551a6e3676e") false
    cashBack_holds (fun _ h => by cases h) (by kernel_rfl) (fun _ h => by cases h) cashBack_row_tie rfl ⟨rfl, rfl⟩ (by kernel_rfl) rfl
    (fun f fn hf hfn => by
      obtain rfl : f = 3 := Option.some.inj ((show Tryd.prog.funcNamed "entente/ententelaw04.CashBack" = some 3 by kernel_rfl).symm.trans hf) |>.symm
      obtain rfl : fn = Tryd.f3 := (Option.some.inj (Tryd.func3.symm.trans hfn)).symm
      exact ⟨by kernel_rfl, fun j t ht => by
        rw [Tryd.params3] at ht
        have hm : t ∈ [2, 9] := by simpa using Array.mem_of_getElem? ht
        have hall : ([2, 9].all fun u => !Tryd.prog.wantsStandIn u) = true := by kernel_rfl
        exact (show Tryd.prog.wantsStandIn t = false by simpa using List.all_eq_true.1 hall t hm)⟩)
    (by kernel_rfl)
end Go.Proofs.YtmidlcipbpchgacDoor
