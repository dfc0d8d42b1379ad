/- For every input the law SealForms answers true: what is opened is sealed as it stood. -/
import Derived.Test.YtpdcnnlbafcohabDoorLaidQ
import Derived.Test.YtpdcnnlbafcohabDoorFormM
import Derived.Test.YtpdcnnlbafcohabDoorGoodP
import Derived.Test.YtpdcnnlbafcohabDoorCutP
import Derived.Test.YtpdcnnlbafcohabDoorAwk2
import Derived.SevenTiedAt
namespace Go.Proofs.YtpdcnnlbafcohabDoor
open Go.ChangeShapes Go.WideShapes Go.ChangeAt Go.RowKit
open Go.ChangeMaps (open_string shut_string)

theorem ext0_data (s : ByteArray) (k : Nat) : (s.extract 0 k).toList = s.data.toList.take k := by
  have := ext_dat s 0 k
  rw [Nat.zero_add] at this
  rw [toList_data, this, List.drop_zero]

set_option maxHeartbeats 1000000 in
set_option maxRecDepth 100000 in
theorem sealForms_walk (s : ByteArray) (v : Int) (w : World) (hT : Tab w) :
    Calls Tryd.prog 3 #[.string s, .int .i64 v] w fun e w' => e = .returned (.bool true) ∧ Gr w w' := by
  have HA : Hid (∀ w', Gr w w' → Calls Tryd.prog 4 #[] w' fun e w2 => e = .returned (.bool true) ∧ Gr w' w2) := fun w' g => awake2_any w' (hT.gr g)
  by_cases hb : (60000 : Int) < s.size
  · clear hT
    go_enter Tryd.func3, Tryd.ntmps3
    go_wp2_with fail
    refine (HA.out _ (by repeat (first | exact Gr.refl _ | refine Gr.alloc ?_ | refine Gr.drew ?_ | refine Gr.trans ?_ (by assumption)))).mono ?_
    rintro e3 w3 ⟨rfl, hg3⟩
    go_wp2
    go_ret
    exact ⟨rfl, (by repeat (first | exact Gr.refl _ | refine Gr.alloc ?_ | refine Gr.drew ?_ | refine Gr.trans ?_ (by assumption)))⟩
  · have hsz : s.data.toList.length = s.size := by simp
    have H1 := fun w' (g : Gr w w') => cut_any s v w' (hT.gr g) (by omega)
    obtain ⟨⟨l, q, e⟩, hc⟩ : ∃ r, Sl.cutE s.data.toList v = r := ⟨_, rfl⟩
    rw [hc] at H1
    simp only at H1
    obtain ⟨f1, f2, f3, f4, f5, f6⟩ := Sl.cut_facts _ _ _ _ _ hc
    have HC : Hid (∀ w', Gr w w' → Calls Tryd.prog 5 #[.string s, .int .i64 v] w' fun e' w2 => ∃ ad cap, e' = .returned (.tuple #[.slice ad l.length cap, .int .i64 q, .int .i64 e]) ∧ StrsAt w2 ad (l.map mkT) ∧ Gr w' w2) := H1
    clear H1 hc
    by_cases he : e = 2
    · obtain ⟨g1, g2, g3⟩ := f3 he
      subst he g1 g2
      clear f3 f4 f5 f6 hT
      by_cases hv : v < 0
      · go_enter Tryd.func3, Tryd.ntmps3
        go_wp2_with fail
        refine (HC.out _ (by repeat (first | exact Gr.refl _ | refine Gr.alloc ?_ | refine Gr.drew ?_ | refine Gr.trans ?_ (by assumption)))).mono ?_
        rintro e1 w1 ⟨ad, cap, rfl, hst, hg1⟩
        go_wp2_with fail
        refine (HA.out _ (by repeat (first | exact Gr.refl _ | refine Gr.alloc ?_ | refine Gr.drew ?_ | refine Gr.trans ?_ (by assumption)))).mono ?_
        rintro e3 w3 ⟨rfl, hg3⟩
        go_wp2
        go_ret
        exact ⟨rfl, (by repeat (first | exact Gr.refl _ | refine Gr.alloc ?_ | refine Gr.drew ?_ | refine Gr.trans ?_ (by assumption)))⟩
      · have hv' : decide (v < 0) = false := decide_eq_false hv
        have hv2 : 255 < v := by omega
        go_enter Tryd.func3, Tryd.ntmps3
        go_wp2_with fail
        refine (HC.out _ (by repeat (first | exact Gr.refl _ | refine Gr.alloc ?_ | refine Gr.drew ?_ | refine Gr.trans ?_ (by assumption)))).mono ?_
        rintro e1 w1 ⟨ad, cap, rfl, hst, hg1⟩
        go_wp2_with fail
        refine (HA.out _ (by repeat (first | exact Gr.refl _ | refine Gr.alloc ?_ | refine Gr.drew ?_ | refine Gr.trans ?_ (by assumption)))).mono ?_
        rintro e3 w3 ⟨rfl, hg3⟩
        go_wp2
        go_ret
        exact ⟨rfl, (by repeat (first | exact Gr.refl _ | refine Gr.alloc ?_ | refine Gr.drew ?_ | refine Gr.trans ?_ (by assumption)))⟩
    · have he2 : ((e : Int) == 2) = false := by rw [beq_eq_false_iff_ne]; omega
      have hdj : (((e : Int) == 0) = true ∧ ((q : Int) == (s.size : Int)) = true) ∨ (((e : Int) == 0) = false ∧ ((q : Int) == (s.size : Int)) = false) := by
        by_cases h : e = 0
        · left; have h2 := f4.1 h
          exact ⟨by rw [h]; rfl, by rw [beq_iff_eq]; omega⟩
        · right; have h2 : q ≠ s.size := fun hq => h (f4.2 (by omega))
          exact ⟨by rw [beq_eq_false_iff_ne]; omega, by rw [beq_eq_false_iff_ne]; omega⟩
      obtain ⟨k1, k2⟩ := catE_cat v l f5
      rw [← f6] at k1
      have hcl : (catE v (l.map mkT)).length ≤ 60000 := by rw [k1, List.length_take]; omega
      have HS : Hid (∀ (w' : World) (ad : Option Addr) (cap : Nat), Gr w w' → StrsAt w' ad (l.map mkT) → Calls Tryd.prog 6 #[.int .i64 v, .slice ad l.length cap] w' fun e w2 =>
          ∃ ad2 cap2, e = .returned (.tuple #[.string ⟨(s.data.toList.take q).toArray⟩, .slice ad2 l.length cap2, .bool true]) ∧ Gr w' w2) := by
        intro w' ad cap g hst
        have := sealed_any v (l.map mkT) ad cap w' (hT.gr g) hst (by rw [List.length_map]; omega) (by
          intro x hx
          obtain ⟨b, hb', rfl⟩ := List.mem_map.1 hx
          rw [mkT_size]
          have := (f5 b hb').1
          omega) (by omega)
        rw [List.length_map] at this
        refine this.mono ?_
        rintro e w2 ⟨⟨_, ad2, cap2, rfl, _⟩ | ⟨h, _⟩, hg⟩
        · rw [k1]; exact ⟨ad2, cap2, rfl, hg⟩
        · rw [k2] at h; cases h
      have hq0 : decide ((q : Int) < 0) = false := decide_eq_false (by omega)
      have hq1 : decide ((s.size : Int) < (q : Int)) = false := decide_eq_false (by omega)
      have hq2 : (q : Int) ≤ (s.size : Int) := by omega
      have hex := ext0_data s q
      generalize s.data.toList.take q = tk at *
      clear f3 f4 f5 f6 hT k1 k2 hcl hsz f2
      rcases hdj with ⟨hz1, hz2⟩ | ⟨hz1, hz2⟩
      · go_enter Tryd.func3, Tryd.ntmps3
        go_wp2_with fail
        refine (HC.out _ (by repeat (first | exact Gr.refl _ | refine Gr.alloc ?_ | refine Gr.drew ?_ | refine Gr.trans ?_ (by assumption)))).mono ?_
        rintro e1 w1 ⟨ad, cap, rfl, hst, hg1⟩
        go_wp2_with fail
        refine (HS.out _ _ _ (by repeat (first | exact Gr.refl _ | refine Gr.alloc ?_ | refine Gr.drew ?_ | refine Gr.trans ?_ (by assumption))) hst).mono ?_
        rintro e2 w2 ⟨ad2, cap2, rfl, hg2⟩
        go_wp2_with fail
        refine (HA.out _ (by repeat (first | exact Gr.refl _ | refine Gr.alloc ?_ | refine Gr.drew ?_ | refine Gr.trans ?_ (by assumption)))).mono ?_
        rintro e3 w3 ⟨rfl, hg3⟩
        go_wp2
        go_ret
        exact ⟨rfl, (by repeat (first | exact Gr.refl _ | refine Gr.alloc ?_ | refine Gr.drew ?_ | refine Gr.trans ?_ (by assumption)))⟩
      · go_enter Tryd.func3, Tryd.ntmps3
        go_wp2_with fail
        refine (HC.out _ (by repeat (first | exact Gr.refl _ | refine Gr.alloc ?_ | refine Gr.drew ?_ | refine Gr.trans ?_ (by assumption)))).mono ?_
        rintro e1 w1 ⟨ad, cap, rfl, hst, hg1⟩
        go_wp2_with fail
        refine (HS.out _ _ _ (by repeat (first | exact Gr.refl _ | refine Gr.alloc ?_ | refine Gr.drew ?_ | refine Gr.trans ?_ (by assumption))) hst).mono ?_
        rintro e2 w2 ⟨ad2, cap2, rfl, hg2⟩
        go_wp2_with fail
        refine (HA.out _ (by repeat (first | exact Gr.refl _ | refine Gr.alloc ?_ | refine Gr.drew ?_ | refine Gr.trans ?_ (by assumption)))).mono ?_
        rintro e3 w3 ⟨rfl, hg3⟩
        go_wp2
        go_ret
        exact ⟨rfl, (by repeat (first | exact Gr.refl _ | refine Gr.alloc ?_ | refine Gr.drew ?_ | refine Gr.trans ?_ (by assumption)))⟩

set_option maxRecDepth 100000 in
theorem sealForms_lifted (os : Os) (started : os.Started) (H : Type) (enc : TypeId × Value → H) :
    ReturnsInHanded {} Tryd.checked os 3 .any (fun w args => (Rows.sealFormsSpec.pre enc Tryd.prog Tryd.f3 [] false w args ∧ laidMetH Tryd.prog laidL w) ∧ sizedMet enc Tryd.prog Tryd.f3 (OpenSpec.ofChange Rows.sealFormsSpec) false w args)
      (Rows.sealFormsSpec.post enc Tryd.prog Tryd.f3 false true false false) := by
  refine returnsInHanded_of_change_and (C := Tryd.checked) (X := fun w _ => laidMetH Tryd.prog laidL w) (fun _ _ _ hh h => h.of_heap hh) own2 started (by kernel_rfl) Tryd.func3
    (ChangeSpec.witness_shaped (enc := enc) (C := Tryd.checked) (os := os) (X := fun w _ => laidMetH Tryd.prog laidL w) false (World.doorLaid Tryd.prog 400 os) #[.string ByteArray.empty, .int .i64 0] 8 rfl (World.shaped_of_RefB (by kernel_rfl) (by kernel_rfl)) (by kernel_rfl) (by kernel_rfl) (by kernel_rfl) (door_met os _)) ?_
  intro W base args ds gs before hval0 hW _ hsz0 hL _
  have hval : ∀ (j : Nat) t v, Tryd.f3.params[j]? = some t → args[j]? = some v → Value.okWide Tryd.prog W .any base t v := hval0
  have hsz : (DataW.weightsEach Tryd.prog (Tryd.f3.params.toList ++ Rows.sealFormsSpec.plain.varTypes Tryd.prog) (ds ++ gs)).all (· ≤ reachBytes) = true := hsz0
  have hW' := hW
  obtain ⟨p, q, hA0, hV, rfl, hfz, hnd⟩ := hW
  have hA : DataW.TrodAll enc Tryd.prog W 0 (fun _ => true) true Tryd.f3.params.toList args.toList ds p := hA0
  rw [Tryd.params3] at hA hval hsz
  obtain ⟨v0, v1, d0, d1, p0, p1, rfl, rfl, rfl, h0, h1⟩ := trodAll_two hA
  obtain ⟨rfl, rfl⟩ := trodVars_none hV
  obtain ⟨a0, rfl, rfl, rfl, wa0⟩ := open_string Tryd.underlying9 (hval 0 9 v0 rfl rfl) h0
  obtain ⟨a1, rfl, rfl, rfl, wa1⟩ := open_int Tryd.underlying3 (hval 1 3 v1 rfl rfl) h1
  clear hA0 hval0
  have hT := tab_of_laid hL
  refine (sealForms_walk a0 a1 W hT).mono fun e W' ⟨he, hg⟩ => ?_
  subst he
  exact ⟨_, rfl, _, _, _, [], _, [], hW', trodAll_mk1 (shut_bool Tryd.underlying4 _), trodAll_mk2 (shut_string Tryd.underlying9 wa0) (shut_int Tryd.underlying3 wa1), rfl, hg.below.frame _, fun h => by cases h⟩

theorem sealForms_holds : Rows.SealFormsSaid :=
  OpenClaim.holds_of_wide 3 Tryd.f3 rfl rfl rfl rfl rfl rfl rfl ⟨rfl, rfl, rfl, rfl, rfl⟩ rfl rfl rfl rfl rfl (by kernel_rfl) Tryd.func3 (by kernel_rfl)
    (of_decide_eq_true (by kernel_rfl)) (by unfold Func.isWrapper; first | (rw [if_pos (by decide +kernel)]; kernel_rfl) | (rw [if_neg (by decide +kernel)]; exact ⟨rfl, rfl⟩))
    (fun os started H enc _ => sealForms_lifted os started H enc)

theorem sealForms_card_holds : Rows.SealFormsCardSaid :=
  Claim7.holds_tied_plain_at .later [] [.data] true (true, "dd4e62eb86673394c99df46eec0add86b62ae7a71adaaadca9e6962e53b390c8") false
    sealForms_holds (fun _ h => by cases h) (by kernel_rfl) (fun _ h => by cases h) sealForms_row_tie rfl ⟨rfl, rfl⟩ (by kernel_rfl) rfl
    (fun f fn hf hfn => by
      obtain rfl : f = 3 := Option.some.inj ((show Tryd.prog.funcNamed "entente/ententelaw02.SealForms" = some 3 by kernel_rfl).symm.trans hf) |>.symm
      obtain rfl : fn = Tryd.f3 := (Option.some.inj (Tryd.func3.symm.trans hfn)).symm
      exact ⟨by kernel_rfl, fun j t ht => by
        rw [Tryd.params3] at ht
        have hm : t ∈ [9, 3] := by simpa using Array.mem_of_getElem? ht
        have hall : ([9, 3].all fun u => !Tryd.prog.wantsStandIn u) = true := by kernel_rfl
        exact (show Tryd.prog.wantsStandIn t = false by simpa using List.all_eq_true.1 hall t hm)⟩)
    (by kernel_rfl)
end Go.Proofs.YtpdcnnlbafcohabDoor
