
/- For every input the law SegmentLooks answers true: any files are the document's log, or none. -/
import Derived.Test.YtoeibjflaiiljaaDoorLaidQ
import Derived.Test.YtoeibjflaiiljaaDoorSgW
import Derived.Test.YtoeibjflaiiljaaDoorRgL
import Derived.Test.YtoeibjflaiiljaaDoorOpenG
import Derived.SevenTiedAt
namespace Go.Proofs.YtoeibjflaiiljaaDoor
open Go.ChangeShapes Go.WideShapes Go.ChangeAt Go.RowKit
open Go.ChangeMaps (open_string shut_string)
open Dk (Fl)

theorem look_len (L : List Fl) (h : L.length ≤ 3000) (hd : ∀ f ∈ L, f.d.size ≤ 60000) : (Sg.look L).bodies.length ≤ 60000 ∧ (Sg.look L).drop.length ≤ 6000 := by
  have hdr : ∀ p, (Sg.drops L p).length ≤ 6000 := by
    intro p
    unfold Sg.drops Sg.nums
    simp only [List.length_append, List.length_map, List.length_take, List.length_drop]
    omega
  unfold Sg.look
  split
  · split
    · split
      · exact ⟨by simp, by simp [Sg.nums]; omega⟩
      · rename_i hm
        rcases Sg.lw_range L L.length with (h1 | h1) | ⟨p, hp, h1, _⟩
        · rw [h1] at hm; exact absurd rfl hm
        · rw [h1] at hm; exact absurd rfl hm
        · rw [h1]
          show (Sg.found L p).bodies.length ≤ 60000 ∧ (Sg.found L p).drop.length ≤ 6000
          unfold Sg.found
          rw [Sg.at_eq L p hp]
          split
          · refine ⟨?_, hdr p⟩
            have := (Sl.cut_facts _ 3 _ _ _ (show Sl.cutE L[p].d.data.toList 3 = ((Sg.cut L[p]).1, (Sg.cut L[p]).2.1, (Sg.cut L[p]).2.2) from rfl)).2.1
            have h2 := hd _ (List.getElem_mem hp)
            have h3 : L[p].d.data.toList.length = L[p].d.size := by simp
            show (Sg.cut L[p]).1.length ≤ 60000
            omega
          · exact ⟨by simp [Sg.bad], by simp [Sg.bad]⟩
    · exact ⟨by simp [Sg.bad], by simp [Sg.bad]⟩
  · exact ⟨by simp [Sg.bad], by simp [Sg.bad]⟩
set_option maxHeartbeats 4000000 in
set_option maxRecDepth 100000 in
theorem segmentLooks_walk (L : List Fl) (ad : Option Addr) (cap : Nat) (w : World) (hT : Tab w) (hL : RowAt flf w ad L) (hn : L.length ≤ 9223372036854775807) (hz : ∀ z ∈ L, (-9223372036854775808 ≤ z.n ∧ z.n ≤ 9223372036854775807) ∧ z.d.size ≤ 9223372036854775807 ∧ (-9223372036854775808 ≤ z.y ∧ z.y ≤ 9223372036854775807)) (hcap : L.length ≤ cap) :
    Calls Tryd.prog 4 #[.slice ad L.length cap] w fun e w' => e = .returned (.bool true) ∧ Gr w w' := by
  have HA : Hid (∀ w', Gr w w' → Calls Tryd.prog 8 #[] w' fun e w2 => e = .returned (.bool true) ∧ Gr w' w2) := fun w' g => awake16_any w' (hT.gr g)
  have H0 : Hid (∀ w', Gr w w' → Calls Tryd.prog 13 #[.slice ad L.length cap] w' fun e w2 => e = .returned (.bool (sm 0 L)) ∧ w2 = w') := fun w' g => small16_any L ad cap w' (hL.gr g) hn (fun f hf => (hz f hf).2.1)
  rcases hsm : sm 0 L with _ | _
  · rw [hsm] at H0
    clear hT hL hz hsm
    go_enter Tryd.func4, Tryd.ntmps4
    go_wp2_with fail
    refine (H0.out _ (by repeat (first | exact Gr.refl _ | refine Gr.alloc ?_ | refine Gr.drew ?_ | refine Gr.trans ?_ (by assumption)))).mono ?_
    rintro e0 w0 ⟨rfl, hw0⟩; obtain rfl := hw0.symm
    go_wp2_with fail
    refine (HA.out _ (by repeat (first | exact Gr.refl _ | refine Gr.alloc ?_ | refine Gr.drew ?_ | refine Gr.trans ?_ (by assumption)))).mono ?_
    rintro e9 w9 ⟨rfl, hg9⟩
    go_wp2
    go_ret
    exact ⟨rfl, (by repeat (first | exact Gr.refl _ | refine Gr.alloc ?_ | refine Gr.drew ?_ | refine Gr.trans ?_ (by assumption)))⟩
  · rw [hsm] at H0
    obtain ⟨l1, l2⟩ := sm_all L 0 (by omega) hsm
    have hF : FsAt w ad cap L := ⟨hL, by omega, hcap, fun f hf => ⟨(hz f hf).1.1, (hz f hf).1.2, by have := l2 f hf; omega⟩⟩
    have HP : Hid (∀ w', Gr w w' → Calls Tryd.prog 14 #[.slice ad L.length cap] w' fun e w2 => LkR (Sg.look L) w' e w2) := fun w' g => look_any L ad cap w' (hT.gr g) (hF.gr g)
    have HR : Hid (∀ w', Gr w w' → Calls Tryd.prog 15 #[.slice ad L.length cap] w' fun e w2 => LkR (Sg.look L) w' e w2) := fun w' g => rlook_any L ad cap w' (hF.gr g)
    have hll := look_len L (by omega) l2
    clear hT hL hz hsm hF l1 l2
    generalize Sg.look L = X at *
    obtain ⟨xn, xg, B, D, xe⟩ := X
    simp only at hll
    have HS : Hid (∀ (w' : World) (a1 a2 : Option Addr) (c1 c2 : Nat), StrsAt w' a1 (B.map mkT) → StrsAt w' a2 (B.map mkT) → Calls Tryd.prog 16 #[.slice a1 B.length c1, .slice a2 B.length c2] w' fun e w2 => e = .returned (.bool true) ∧ Gr w' w2) := fun w' a1 a2 c1 c2 h1 h2 => by
      have := same16_any (B.map mkT) a1 a2 c1 c2 w' (by rw [List.length_map]; omega) h1 h2
      rw [List.length_map] at this
      exact this
    have HN : Hid (∀ (w' : World) (a1 a2 : Option Addr) (c1 c2 : Nat), IntsAt w' a1 D → IntsAt w' a2 D → Calls Tryd.prog 17 #[.slice a1 D.length c1, .slice a2 D.length c2] w' fun e w2 => e = .returned (.bool true) ∧ Gr w' w2) := fun w' a1 a2 c1 c2 h1 h2 => nums16_any D a1 a2 c1 c2 w' (by omega) h1 h2
    clear hll
    go_enter Tryd.func4, Tryd.ntmps4
    go_wp2_with fail
    refine (H0.out _ (by repeat (first | exact Gr.refl _ | refine Gr.alloc ?_ | refine Gr.drew ?_ | refine Gr.trans ?_ (by assumption)))).mono ?_
    rintro e0 w0 ⟨rfl, hw0⟩; obtain rfl := hw0.symm
    go_wp2_with fail
    refine (HP.out _ (by repeat (first | exact Gr.refl _ | refine Gr.alloc ?_ | refine Gr.drew ?_ | refine Gr.trans ?_ (by assumption)))).mono ?_
    rintro e1 w1 ⟨ab, cb, adr, cd, rfl, hst, hia, hg1⟩
    simp only at hst hia ⊢
    have G1 := Lib.hid hg1
    go_wp2_with fail
    refine (HR.out _ (G1.out.trans (by repeat (first | exact Gr.refl _ | refine Gr.alloc ?_ | refine Gr.drew ?_ | refine Gr.trans ?_ (by assumption))))).mono ?_
    rintro e2 w2 ⟨ab2, cb2, adr2, cd2, rfl, hst2, hia2, hg2⟩
    simp only at hst2 hia2 ⊢
    have BA := (Bx4.new w1 (.int .i64 xn) (.int .i64 xg) (.slice ab B.length cb) (.slice adr D.length cd) 37 _ rfl).gr hg2
    have G2 := Lib.hid (G1.out.trans ((Gr.refl _).alloc.trans hg2) : Gr w w2)
    have S1 := Lib.hid (hst.gr ((Gr.refl _).alloc.trans hg2))
    have I1 := Lib.hid (hia.gr ((Gr.refl _).alloc.trans hg2))
    have S2 := Lib.hid hst2
    have I2 := Lib.hid hia2
    have BB := Bx4.new w2 (.int .i64 xn) (.int .i64 xg) (.slice ab2 B.length cb2) (.slice adr2 D.length cd2) 40 _ rfl
    have BA := BA.gr ((Gr.refl w2).alloc (o := .cells #[.int .i64 xn, .int .i64 xg, .slice ab2 B.length cb2, .slice adr2 D.length cd2] 40))
    obtain ⟨x0, x1, x2, x3, _⟩ := BA
    obtain ⟨y0, y1, y2, y3, _⟩ := BB
    clear hst hia hg1 hst2 hia2 hg2 HP HR H0
    go_wp2_with fail
    refine (HS.out _ _ _ _ _ (S1.out.gr (by repeat (first | exact Gr.refl _ | refine Gr.alloc ?_ | refine Gr.drew ?_ | refine Gr.trans ?_ (by assumption)))) (S2.out.gr (by repeat (first | exact Gr.refl _ | refine Gr.alloc ?_ | refine Gr.drew ?_ | refine Gr.trans ?_ (by assumption))))).mono ?_
    rintro e3 w3 ⟨rfl, hg3⟩
    have x3 := hg3.keep x3
    have y3 := hg3.keep y3
    go_wp2_with fail
    refine (HN.out _ _ _ _ _ (I1.out.gr (by repeat (first | exact Gr.refl _ | refine Gr.alloc ?_ | refine Gr.drew ?_ | refine Gr.trans ?_ (by assumption)))) (I2.out.gr (by repeat (first | exact Gr.refl _ | refine Gr.alloc ?_ | refine Gr.drew ?_ | refine Gr.trans ?_ (by assumption))))).mono ?_
    rintro e4 w4 ⟨rfl, hg4⟩
    go_wp2_with fail
    refine (HA.out _ (G2.out.trans (by repeat (first | exact Gr.refl _ | refine Gr.alloc ?_ | refine Gr.drew ?_ | refine Gr.trans ?_ (by assumption))))).mono ?_
    rintro e9 w9 ⟨rfl, hg9⟩
    go_wp2
    go_ret
    exact ⟨rfl, G2.out.trans (by repeat (first | exact Gr.refl _ | refine Gr.alloc ?_ | refine Gr.drew ?_ | refine Gr.trans ?_ (by assumption)))⟩

set_option maxRecDepth 100000 in
theorem segmentLooks_lifted (os : Os) (started : os.Started) (H : Type) (enc : TypeId × Value → H) :
    ReturnsInHanded {} Tryd.checked os 4 .any (fun w args => (Rows.segmentLooksSpec.pre enc Tryd.prog Tryd.f4 [] false w args ∧ laidMetH Tryd.prog laidL w) ∧ sizedMet enc Tryd.prog Tryd.f4 (OpenSpec.ofChange Rows.segmentLooksSpec) false w args)
      (Rows.segmentLooksSpec.post enc Tryd.prog Tryd.f4 false true false false) := by
  refine returnsInHanded_of_change_and (C := Tryd.checked) (X := fun w _ => laidMetH Tryd.prog laidL w) (fun _ _ _ hh h => h.of_heap hh) own2 started (by kernel_rfl) Tryd.func4
    (ChangeSpec.witness_shaped (enc := enc) (C := Tryd.checked) (os := os) (X := fun w _ => laidMetH Tryd.prog laidL w) false (World.doorLaid Tryd.prog 400 os) #[.slice none 0 0] 8 rfl (World.shaped_of_RefB (by kernel_rfl) (by kernel_rfl)) (by kernel_rfl) (by kernel_rfl) (by kernel_rfl) (door_met os _)) ?_
  intro W base args ds gs before hval0 hW _ hsz0 hL _
  have hval : ∀ (j : Nat) t v, Tryd.f4.params[j]? = some t → args[j]? = some v → Value.okWide Tryd.prog W .any base t v := hval0
  have hsz : (DataW.weightsEach Tryd.prog (Tryd.f4.params.toList ++ Rows.segmentLooksSpec.plain.varTypes Tryd.prog) (ds ++ gs)).all (· ≤ reachBytes) = true := hsz0
  have hW' := hW
  obtain ⟨p, q, hA0, hV, rfl, hfz, hnd⟩ := hW
  have hA : DataW.TrodAll enc Tryd.prog W 0 (fun _ => true) true Tryd.f4.params.toList args.toList ds p := hA0
  rw [Tryd.params4] at hA hval hsz
  obtain ⟨v0, d0, rfl, rfl, h0⟩ := trodAll_one hA
  obtain ⟨rfl, rfl⟩ := trodVars_none hV
  have k0 := h0
  have lt0 : ∀ x ∈ p, x.block < W.heap.size := by obtain ⟨m, hm⟩ := k0; exact DataW.trod_lt m _ _ _ hm
  obtain ⟨ad0, cap0, L0, rfl, hL0, hn0, hz0, hc0, hcap0⟩ := open_files16 (hval 0 33 v0 rfl rfl) h0
  clear hA0 hval0
  have hT := tab_of_laid hL
  refine (segmentLooks_walk L0 ad0 cap0 W hT hL0 hn0 hz0 hcap0).mono fun e W' ⟨he, hg⟩ => ?_
  subst he
  exact ⟨_, rfl, _, _, _, [], _, [], hW', trodAll_mk1 (shut_bool Tryd.underlying4 _), trodAll_mk1 (Below.trod laidOut2 (by kernel_rfl) (of_decide_eq_true (by kernel_rfl)) k0 hg.below lt0), rfl, hg.below.frame _, fun h => by cases h⟩

theorem segmentLooks_holds : Rows.SegmentLooksSaid :=
  OpenClaim.holds_of_wide 4 Tryd.f4 rfl rfl rfl rfl rfl rfl rfl ⟨rfl, rfl, rfl, rfl, rfl⟩ rfl rfl rfl rfl rfl (by kernel_rfl) Tryd.func4 (by kernel_rfl)
    (of_decide_eq_true (by kernel_rfl)) (by unfold Func.isWrapper; first | (rw [if_pos (by decide +kernel)]; kernel_rfl) | (rw [if_neg (by decide +kernel)]; exact ⟨rfl, rfl⟩))
    (fun os started H enc _ => segmentLooks_lifted os started H enc)

theorem segmentLooks_card_holds : Rows.SegmentLooksCardSaid :=
  Claim7.holds_tied_plain_at .later [] [.data] true (true, "bd5fecf5b305d5c900338b8eb8152168445dc55772493c5ce2fd1accb5df91ff") false
    segmentLooks_holds (fun _ h => by cases h) (by kernel_rfl) (fun _ h => by cases h) segmentLooks_row_tie rfl ⟨rfl, rfl⟩ (by kernel_rfl) rfl
    (fun f fn hf hfn => by
      obtain rfl : f = 4 := Option.some.inj ((show Tryd.prog.funcNamed "entente/ententelaw16.SegmentLooks" = some 4 by kernel_rfl).symm.trans hf) |>.symm
      obtain rfl : fn = Tryd.f4 := (Option.some.inj (Tryd.func4.symm.trans hfn)).symm
      exact ⟨by kernel_rfl, fun j t ht => by
        rw [Tryd.params4] at ht
        have hm : t ∈ [33] := by simpa using Array.mem_of_getElem? ht
        have hall : ([33].all fun u => !Tryd.prog.wantsStandIn u) = true := by kernel_rfl
        exact (show Tryd.prog.wantsStandIn t = false by simpa using List.all_eq_true.1 hall t hm)⟩)
    (by kernel_rfl)
end Go.Proofs.YtoeibjflaiiljaaDoor
