
/- For every input the law SegmentMakes answers true: any bodies are a file's head, and what stands behind, as the document says, or are refused. -/
import Derived.Test.YtoeibjflaiiljaaDoorLaidQ
import Derived.Test.YtoeibjflaiiljaaDoorSgW
import Derived.Test.YtoeibjflaiiljaaDoorSgQ
import Derived.Test.YtoeibjflaiiljaaDoorSmlA
import Derived.Test.YtoeibjflaiiljaaDoorOpenS2
import Derived.Test.YtoeibjflaiiljaaDoorOpenG
import Derived.SevenTiedAt
namespace Go.Proofs.YtoeibjflaiiljaaDoor
open Go.ChangeShapes Go.WideShapes Go.ChangeAt Go.RowKit
open Go.ChangeMaps (open_string shut_string)

set_option maxHeartbeats 4000000 in
set_option maxRecDepth 100000 in
theorem segmentMakes_walk (s : ByteArray) (L : List ByteArray) (ad : Option Addr) (cap : Nat) (w : World) (hT : Tab w) (hs : s.size ≤ 140737488355328) (hL : StrsAt w ad L) (hn : L.length ≤ 9223372036854775807) (hsz : ∀ s ∈ L, s.size ≤ 9223372036854775807) :
    Calls Tryd.prog 3 #[.string s, .slice ad L.length cap] w fun e w' => e = .returned (.bool true) ∧ Gr w w' := by
  have HA : Hid (∀ w', Gr w w' → Calls Tryd.prog 8 #[] w' fun e w2 => e = .returned (.bool true) ∧ Gr w' w2) := fun w' g => awake16_any w' (hT.gr g)
  have H0 : Hid (∀ w', Gr w w' → Calls Tryd.prog 7 #[.slice ad L.length cap] w' fun e w2 => e = .returned (.bool (Pk.small L)) ∧ w2 = w') := fun w' g => small_any L ad cap w' (hL.gr g) hn hsz
  rcases hsm : Pk.small L with _ | _
  · rw [hsm] at H0
    clear hT hL hsz hsm
    go_enter Tryd.func3, Tryd.ntmps3
    go_wp2_with fail
    refine (H0.out _ (by repeat (first | exact Gr.refl _ | refine Gr.alloc ?_ | refine Gr.drew ?_ | refine Gr.trans ?_ (by assumption)))).mono ?_
    rintro e0 w0 ⟨rfl, hw0⟩; obtain rfl := hw0.symm
    go_wp2_with fail
    refine (HA.out _ (by repeat (first | exact Gr.refl _ | refine Gr.alloc ?_ | refine Gr.drew ?_ | refine Gr.trans ?_ (by assumption)))).mono ?_
    rintro e9 w9 ⟨rfl, hg9⟩
    go_wp2
    go_ret
    exact ⟨rfl, (by repeat (first | exact Gr.refl _ | refine Gr.alloc ?_ | refine Gr.drew ?_ | refine Gr.trans ?_ (by assumption)))⟩
  · rw [hsm] at H0
    obtain ⟨l1, l2, l3⟩ := Sg.small_frs L hsm
    have HB : Hid (∀ w', Gr w w' → Calls Tryd.prog 9 #[.string s] w' fun e w2 => e = .returned (.tuple #[.string ⟨(Sl.sealE 3 s.data.toList).1.toArray⟩, .int .i64 (Sl.sealE 3 s.data.toList).2]) ∧ Gr w' w2) := fun w' g => begin_any s w' (hT.gr g) (by omega)
    have HR : Hid (∀ w' : World, Calls Tryd.prog 10 #[.int .i64 3, .string s] w' fun e w2 => e = .returned (.tuple #[.string ⟨(Sl.sealE 3 s.data.toList).1.toArray⟩, .int .i64 (Sl.sealE 3 s.data.toList).2]) ∧ Gr w' w2) := fun w' => refSeal_any 3 s w' (by omega)
    have HN : Hid (∀ w', Gr w w' → Calls Tryd.prog 11 #[.slice ad L.length cap] w' fun e w2 => e = .returned (.tuple #[.string ⟨(Sg.next L).1.toArray⟩, .int .i64 ((Sg.next L).2 : Nat)]) ∧ Gr w' w2) := fun w' g => next_any L ad cap w' (hT.gr g) (hL.gr g) (by omega) hsz
    have HM : Hid (∀ w', Gr w w' → Calls Tryd.prog 12 #[.slice ad L.length cap] w' fun e w2 => e = .returned (.tuple #[.string ⟨(Sg.next L).1.toArray⟩, .int .i64 ((Sg.next L).2 : Nat)]) ∧ Gr w' w2) := fun w' g => refNext_any L ad cap w' (hL.gr g) (by omega) hsz (by omega)
    clear hT hL hsz hsm l1 l3
    generalize Sl.sealE 3 s.data.toList = r at *
    obtain ⟨r1, r2⟩ := r
    generalize Sg.next L = q at *
    obtain ⟨q1, q2⟩ := q
    simp only at *
    generalize (⟨r1.toArray⟩ : ByteArray) = ra at *
    generalize (⟨q1.toArray⟩ : ByteArray) = qa at *
    go_enter Tryd.func3, Tryd.ntmps3
    go_wp2_with fail
    refine (H0.out _ (by repeat (first | exact Gr.refl _ | refine Gr.alloc ?_ | refine Gr.drew ?_ | refine Gr.trans ?_ (by assumption)))).mono ?_
    rintro e0 w0 ⟨rfl, hw0⟩; obtain rfl := hw0.symm
    go_wp2_with fail
    refine (HB.out _ (by repeat (first | exact Gr.refl _ | refine Gr.alloc ?_ | refine Gr.drew ?_ | refine Gr.trans ?_ (by assumption)))).mono ?_
    rintro e1 w1 ⟨rfl, hg1⟩
    go_wp2_with fail
    refine (HR.out _).mono ?_
    rintro e2 w2 ⟨rfl, hg2⟩
    go_wp2_with fail
    refine (HN.out _ (by repeat (first | exact Gr.refl _ | refine Gr.alloc ?_ | refine Gr.drew ?_ | refine Gr.trans ?_ (by assumption)))).mono ?_
    rintro e3 w3 ⟨rfl, hg3⟩
    go_wp2_with fail
    refine (HM.out _ (by repeat (first | exact Gr.refl _ | refine Gr.alloc ?_ | refine Gr.drew ?_ | refine Gr.trans ?_ (by assumption)))).mono ?_
    rintro e4 w4 ⟨rfl, hg4⟩
    go_wp2_with fail
    refine (HA.out _ (by repeat (first | exact Gr.refl _ | refine Gr.alloc ?_ | refine Gr.drew ?_ | refine Gr.trans ?_ (by assumption)))).mono ?_
    rintro e9 w9 ⟨rfl, hg9⟩
    go_wp2
    go_ret
    exact ⟨rfl, (by repeat (first | exact Gr.refl _ | refine Gr.alloc ?_ | refine Gr.drew ?_ | refine Gr.trans ?_ (by assumption)))⟩

set_option maxRecDepth 100000 in
theorem segmentMakes_lifted (os : Os) (started : os.Started) (H : Type) (enc : TypeId × Value → H) :
    ReturnsInHanded {} Tryd.checked os 3 .any (fun w args => (Rows.segmentMakesSpec.pre enc Tryd.prog Tryd.f3 [] false w args ∧ laidMetH Tryd.prog laidL w) ∧ sizedMet enc Tryd.prog Tryd.f3 (OpenSpec.ofChange Rows.segmentMakesSpec) false w args)
      (Rows.segmentMakesSpec.post enc Tryd.prog Tryd.f3 false true false false) := by
  refine returnsInHanded_of_change_and (C := Tryd.checked) (X := fun w _ => laidMetH Tryd.prog laidL w) (fun _ _ _ hh h => h.of_heap hh) own2 started (by kernel_rfl) Tryd.func3
    (ChangeSpec.witness_shaped (enc := enc) (C := Tryd.checked) (os := os) (X := fun w _ => laidMetH Tryd.prog laidL w) false (World.doorLaid Tryd.prog 400 os) #[.string ⟨#[]⟩, .slice none 0 0] 8 rfl (World.shaped_of_RefB (by kernel_rfl) (by kernel_rfl)) (by kernel_rfl) (by kernel_rfl) (by kernel_rfl) (door_met os _)) ?_
  intro W base args ds gs before hval0 hW _ hsz0 hL _
  have hval : ∀ (j : Nat) t v, Tryd.f3.params[j]? = some t → args[j]? = some v → Value.okWide Tryd.prog W .any base t v := hval0
  have hsz : (DataW.weightsEach Tryd.prog (Tryd.f3.params.toList ++ Rows.segmentMakesSpec.plain.varTypes Tryd.prog) (ds ++ gs)).all (· ≤ reachBytes) = true := hsz0
  have hW' := hW
  obtain ⟨p, q, hA0, hV, rfl, hfz, hnd⟩ := hW
  have hA : DataW.TrodAll enc Tryd.prog W 0 (fun _ => true) true Tryd.f3.params.toList args.toList ds p := hA0
  rw [Tryd.params3] at hA hval hsz
  obtain ⟨v0, v1, d0, d1, p0, p1, rfl, rfl, rfl, h0, h1⟩ := trodAll_two hA
  obtain ⟨rfl, rfl⟩ := trodVars_none hV
  have k1 := h1
  have lt1 : ∀ x ∈ p1, x.block < W.heap.size := by obtain ⟨m, hm⟩ := k1; exact DataW.trod_lt m _ _ _ hm
  obtain ⟨a0, rfl, rfl, rfl, wa0⟩ := open_string Tryd.underlying9 (hval 0 9 v0 rfl rfl) h0
  have hr0 : a0.size ≤ 140737488355328 := by
    have hr := sized_string hsz (j := 0) (t := 9) rfl rfl
    have : a0.data.toList.length = a0.size := by simp
    simp only [reachBytes] at hr
    omega
  obtain ⟨ad1, cap1, L1, rfl, hL1, hn1, hz1, hcap1⟩ := open_strs (hval 1 22 v1 rfl rfl) h1
  clear hA0 hval0
  have hT := tab_of_laid hL
  refine (segmentMakes_walk a0 L1 ad1 cap1 W hT hr0 hL1 hn1 hz1).mono fun e W' ⟨he, hg⟩ => ?_
  subst he
  exact ⟨_, rfl, _, _, _, [], _, [], hW', trodAll_mk1 (shut_bool Tryd.underlying4 _), trodAll_mk2 (shut_string Tryd.underlying9 wa0) (Below.trod laidOut2 (by kernel_rfl) (of_decide_eq_true (by kernel_rfl)) k1 hg.below lt1), rfl, hg.below.frame _, fun h => by cases h⟩

theorem segmentMakes_holds : Rows.SegmentMakesSaid :=
  OpenClaim.holds_of_wide 3 Tryd.f3 rfl rfl rfl rfl rfl rfl rfl ⟨rfl, rfl, rfl, rfl, rfl⟩ rfl rfl rfl rfl rfl (by kernel_rfl) Tryd.func3 (by kernel_rfl)
    (of_decide_eq_true (by kernel_rfl)) (by unfold Func.isWrapper; first | (rw [if_pos (by decide +kernel)]; kernel_rfl) | (rw [if_neg (by decide +kernel)]; exact ⟨rfl, rfl⟩))
    (fun os started H enc _ => segmentMakes_lifted os started H enc)

theorem segmentMakes_card_holds : Rows.SegmentMakesCardSaid :=
  Claim7.holds_tied_plain_at .later [] [.data] true (true, "bd5fecf5b305d5c900338b8eb8152168445dc55772493c5ce2fd1accb5df91ff") false
    segmentMakes_holds (fun _ h => by cases h) (by kernel_rfl) (fun _ h => by cases h) segmentMakes_row_tie rfl ⟨rfl, rfl⟩ (by kernel_rfl) rfl
    (fun f fn hf hfn => by
      obtain rfl : f = 3 := Option.some.inj ((show Tryd.prog.funcNamed "entente/ententelaw16.SegmentMakes" = some 3 by kernel_rfl).symm.trans hf) |>.symm
      obtain rfl : fn = Tryd.f3 := (Option.some.inj (Tryd.func3.symm.trans hfn)).symm
      exact ⟨by kernel_rfl, fun j t ht => by
        rw [Tryd.params3] at ht
        have hm : t ∈ [9, 22] := by simpa using Array.mem_of_getElem? ht
        have hall : ([9, 22].all fun u => !Tryd.prog.wantsStandIn u) = true := by kernel_rfl
        exact (show Tryd.prog.wantsStandIn t = false by simpa using List.all_eq_true.1 hall t hm)⟩)
    (by kernel_rfl)
end Go.Proofs.YtoeibjflaiiljaaDoor
