/- For every text the law WalNobody answers true: logs that no call made do nothing; on a disk that no call made there is none. -/
import Derived.Test.YtojmhhmpmpbpfaaDoorGA
import Derived.Test.YtojmhhmpmpbpfaaDoorGY
import Derived.Test.YtojmhhmpmpbpfaaDoorGBA
import Derived.Test.YtojmhhmpmpbpfaaDoorGT
import Derived.SevenTiedAt
namespace Go.Proofs.YtojmhhmpmpbpfaaDoor
open Go.ChangeShapes Go.WideShapes Go.ChangeAt Go.RowKit
open Go.ChangeMaps (open_string shut_string)

set_option maxHeartbeats 4000000 in
set_option maxRecDepth 100000 in
theorem walNobody_walk (d : ByteArray) (w : World) (hT : Tab w) : Calls Tryd.prog 3 #[.string d] w fun e w' => e = .returned (.bool true) ∧ Gr w w' := by
  have HA : Hid (∀ w', Gr w w' → Calls Tryd.prog 10 #[] w' fun e w2 => e = .returned (.bool true) ∧ Gr w' w2) := fun w' g => awake17_any w' (hT.gr g)
  have H1 : Hid (∀ w' v, NoL w' v → Calls Tryd.prog 5 #[v, .string d] w' fun e w2 => e = .returned (.int .i64 1) ∧ w2 = w') := fun w' v k => noLAppend v k d
  have H2 : Hid (∀ w' v, NoL w' v → Calls Tryd.prog 6 #[v, .string d] w' fun e w2 => e = .returned (.int .i64 1) ∧ w2 = w') := fun w' v k => noLTurn v k d
  have H3 : Hid (∀ w' v, NoL w' v → Calls Tryd.prog 7 #[v] w' fun e w2 => e = .returned (.int .i64 0) ∧ w2 = w') := fun w' v k => noNumber v k
  have H4 : Hid (∀ w' v, NoL w' v → Calls Tryd.prog 8 #[v] w' fun e w2 => e = .returned (.int .i64 0) ∧ w2 = w') := fun w' v k => noSize v k
  have HO : Hid (∀ w' v, Nob w' v → Calls Tryd.prog 9 #[v, .string d] w' fun e w2 => e = .returned (.tuple #[nilP, .slice none 0 0, .int .i64 1]) ∧ Gr w' w2) := fun w' v k => noOpen v k d
  clear hT
  go_enter Tryd.func3, Tryd.ntmps3
  go_wp2
  go_loopw [15] (fun i wr => ∃ k : Nat, k ≤ 2 ∧ i = .int .i64 (k : Int) ∧ wr.cell? ⟨w.heap.size + 1, 0, none⟩ = some nilP ∧ wr.cell? ⟨w.heap.size + 1, 1, none⟩ = some (ptr w.heap.size) ∧ wr.cell? ⟨w.heap.size, 0, none⟩ = some nilP ∧ Gr w wr) (fun i _ => 2 - (intOf i).toNat)
  case atStart => exact ⟨0, by omega, rfl, by simp, by simp, by simp, (Gr.refl w).alloc.alloc⟩
  case round =>
    obtain ⟨k, hk, rfl, c0, c1, c2, hg⟩ := hrel
    have HG := Lib.hid hg
    clear hg
    have h01 : k = 0 ∨ k = 1 ∨ k = 2 := by omega
    rcases h01 with rfl | rfl | rfl
    · have HN : Hid (NoL wr nilP) := Or.inl rfl
      go_wp2_with (first
        | (go_at_call 5; refine (H1.out _ _ HN.out).mono ?_; rintro e w' ⟨rfl, hw⟩; obtain rfl := hw.symm; clear hw)
        | (go_at_call 6; refine (H2.out _ _ HN.out).mono ?_; rintro e w' ⟨rfl, hw⟩; obtain rfl := hw.symm; clear hw)
        | (go_at_call 7; refine (H3.out _ _ HN.out).mono ?_; rintro e w' ⟨rfl, hw⟩; obtain rfl := hw.symm; clear hw)
        | (go_at_call 8; refine (H4.out _ _ HN.out).mono ?_; rintro e w' ⟨rfl, hw⟩; obtain rfl := hw.symm; clear hw))
      go_roundw
      case rel => exact ⟨1, by omega, rfl, c0, c1, c2, HG.out⟩
      case measure => simp [intOf]
    · have HN : Hid (NoL wr (ptr w.heap.size)) := Or.inr ⟨_, rfl, c2⟩
      go_wp2_with (first
        | (go_at_call 5; refine (H1.out _ _ HN.out).mono ?_; rintro e w' ⟨rfl, hw⟩; obtain rfl := hw.symm; clear hw)
        | (go_at_call 6; refine (H2.out _ _ HN.out).mono ?_; rintro e w' ⟨rfl, hw⟩; obtain rfl := hw.symm; clear hw)
        | (go_at_call 7; refine (H3.out _ _ HN.out).mono ?_; rintro e w' ⟨rfl, hw⟩; obtain rfl := hw.symm; clear hw)
        | (go_at_call 8; refine (H4.out _ _ HN.out).mono ?_; rintro e w' ⟨rfl, hw⟩; obtain rfl := hw.symm; clear hw))
      go_roundw
      case rel => exact ⟨2, by omega, rfl, c0, c1, c2, HG.out⟩
      case measure => simp [intOf]
    · clear c0 c1 c2 H1 H2 H3 H4
      go_wp2_with fail
      refine (HO.out _ nilP (Or.inl rfl)).mono ?_
      rintro e w2 ⟨rfl, hg2⟩
      have HG2 := Lib.hid (HG.out.trans hg2)
      clear hg2
      go_wp2_with fail
      refine (HO.out _ _ (Or.inr ⟨_, rfl, by simp⟩)).mono ?_
      rintro e w3 ⟨rfl, hg3⟩
      have HG3 := Lib.hid (HG2.out.alloc.trans hg3)
      clear hg3
      go_wp2_with fail
      refine (HA.out _ HG3.out).mono ?_
      rintro e w4 ⟨rfl, hg4⟩
      have HG4 := Lib.hid (HG3.out.trans hg4)
      clear hg4
      go_wp2
      go_ret
      exact ⟨rfl, HG4.out⟩

set_option maxRecDepth 100000 in
theorem walNobody_lifted (os : Os) (started : os.Started) (H : Type) (enc : TypeId × Value → H) :
    ReturnsInHanded {} Tryd.checked os 3 .any (fun w args => (Rows.walNobodySpec.pre enc Tryd.prog Tryd.f3 [] false w args ∧ laidMetH Tryd.prog laidL w) ∧ sizedMet enc Tryd.prog Tryd.f3 (OpenSpec.ofChange Rows.walNobodySpec) false w args)
      (Rows.walNobodySpec.post enc Tryd.prog Tryd.f3 false true false false) := by
  refine returnsInHanded_of_change_and (C := Tryd.checked) (X := fun w _ => laidMetH Tryd.prog laidL w) (fun _ _ _ hh h => h.of_heap hh) own2 started (by kernel_rfl) Tryd.func3
    (ChangeSpec.witness_shaped (enc := enc) (C := Tryd.checked) (os := os) (X := fun w _ => laidMetH Tryd.prog laidL w) false (World.doorLaid Tryd.prog 400 os) #[.string ⟨#[]⟩] 8 rfl (World.shaped_of_RefB (by kernel_rfl) (by kernel_rfl)) (by kernel_rfl) (by kernel_rfl) (by kernel_rfl) (door_met os _)) ?_
  intro W base args ds gs before hval0 hW _ hsz0 hL _
  have hval : ∀ (j : Nat) t v, Tryd.f3.params[j]? = some t → args[j]? = some v → Value.okWide Tryd.prog W .any base t v := hval0
  have hsz : (DataW.weightsEach Tryd.prog (Tryd.f3.params.toList ++ Rows.walNobodySpec.plain.varTypes Tryd.prog) (ds ++ gs)).all (· ≤ reachBytes) = true := hsz0
  have hW' := hW
  obtain ⟨p, q, hA0, hV, rfl, hfz, hnd⟩ := hW
  have hA : DataW.TrodAll enc Tryd.prog W 0 (fun _ => true) true Tryd.f3.params.toList args.toList ds p := hA0
  rw [Tryd.params3] at hA hval hsz
  obtain ⟨v0, d0, rfl, rfl, h0⟩ := trodAll_one hA
  obtain ⟨rfl, rfl⟩ := trodVars_none hV
  obtain ⟨a0, rfl, rfl, rfl, wa0⟩ := open_string Tryd.underlying9 (hval 0 9 v0 rfl rfl) h0
  have hr0 : a0.size ≤ 140737488355328 := by
    have hr := sized_string hsz (j := 0) (t := 9) rfl rfl
    have : a0.data.toList.length = a0.size := by simp
    simp only [reachBytes] at hr
    omega
  clear hA0 hval0
  have hT := tab_of_laid hL
  refine (walNobody_walk a0 W hT).mono fun e W' ⟨he, hg⟩ => ?_
  subst he
  exact ⟨_, rfl, _, _, _, [], _, [], hW', trodAll_mk1 (shut_bool Tryd.underlying4 _), trodAll_mk1 (shut_string Tryd.underlying9 wa0), rfl, hg.below.frame _, fun h => by cases h⟩

theorem walNobody_holds : Rows.WalNobodySaid :=
  OpenClaim.holds_of_wide 3 Tryd.f3 rfl rfl rfl rfl rfl rfl rfl ⟨rfl, rfl, rfl, rfl, rfl⟩ rfl rfl rfl rfl rfl (by kernel_rfl) Tryd.func3 (by kernel_rfl)
    (of_decide_eq_true (by kernel_rfl)) (by unfold Func.isWrapper; first | (rw [if_pos (by decide +kernel)]; kernel_rfl) | (rw [if_neg (by decide +kernel)]; exact ⟨rfl, rfl⟩))
    (fun os started H enc _ => walNobody_lifted os started H enc)

theorem walNobody_card_holds : Rows.WalNobodyCardSaid :=
  Claim7.holds_tied_plain_at .later [] [.data] true (true, "a8beedc6c92902f4666d56b724f8693fa3341ee55780a19c5c7324fe83af55ed") false
    walNobody_holds (fun _ h => by cases h) (by kernel_rfl) (fun _ h => by cases h) walNobody_row_tie rfl ⟨rfl, rfl⟩ (by kernel_rfl) rfl
    (fun f fn hf hfn => by
      obtain rfl : f = 3 := Option.some.inj ((show Tryd.prog.funcNamed "entente/ententelaw17.WalNobody" = some 3 by kernel_rfl).symm.trans hf) |>.symm
      obtain rfl : fn = Tryd.f3 := (Option.some.inj (Tryd.func3.symm.trans hfn)).symm
      exact ⟨by kernel_rfl, fun j t ht => by
        rw [Tryd.params3] at ht
        have hm : t ∈ [9] := by simpa using Array.mem_of_getElem? ht
        have hall : ([9].all fun u => !Tryd.prog.wantsStandIn u) = true := by kernel_rfl
        exact (show Tryd.prog.wantsStandIn t = false by simpa using List.all_eq_true.1 hall t hm)⟩)
    (by kernel_rfl)
end Go.Proofs.YtojmhhmpmpbpfaaDoor
