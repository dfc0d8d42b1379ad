/- For every input the law IdentBack answers true: an id is read as it was written, and what is read is written as it stood. -/
import Derived.Test.YtecpppppadoppaaDoorLaidR
import Derived.Test.YtecpppppadoppaaDoorOpenI
import Derived.Test.YtecpppppadoppaaDoorAwk3
import Derived.Test.YtecpppppadoppaaDoorRCmpP
import Derived.Test.YtecpppppadoppaaDoorBackN
import Derived.SevenTiedAt
namespace Go.Proofs.YtecpppppadoppaaDoor
open Go.ChangeShapes Go.WideShapes Go.ChangeAt Go.RowKit
open Go.ChangeMaps (open_string shut_string)

/- the part behind the first test: a text that is read, or not -/
theorem same_yes (r n : Int) (L : List (Int × Int)) : sameB r n L r n L = true := by simp [sameB]

set_option maxHeartbeats 20000000 in
set_option maxRecDepth 100000 in
theorem identBack_walk (r n : Int) (L : List (Int × Int)) (ad : Option Addr) (cap : Nat) (s : ByteArray) (w : World) (he : Env w) (hL : HopsAt w ad L) (hn : L.length ≤ 9223372036854775807) (hs : s.size ≤ 140737488355328) :
    Calls Tryd.prog 7 #[.agg #[.int .i64 r, .int .i64 n, .slice ad L.length cap], .string s] w fun e w' => e = .returned (.bool true) ∧ Gr w w' := by
  have HA : Hid (∀ w', Gr w w' → Calls Tryd.prog 16 #[] w' fun e w2 => e = .returned (.bool true) ∧ Gr w' w2) := fun w' g => awake_any w' (he.gr g)
  have HS0 := fun w' (g : Gr w w') => show_any r n L ad cap w' (hL.gr g) hn (he.gr g)
  have HP0 := fun w' (g : Gr w w') => parse_any s w' hs (he.gr g)
  have HSAM : Hid (∀ (w' : World) (r n : Int) (L : List (Int × Int)) (a b : Option Addr) (c d : Nat), L.length ≤ 4 → HopsAt w' a L → HopsAt w' b L → Calls Tryd.prog 22 #[.agg #[.int .i64 r, .int .i64 n, .slice a L.length c], .agg #[.int .i64 r, .int .i64 n, .slice b L.length d]] w' fun e w2 => e = .returned (.bool true) ∧ Gr w' w2) := by
    intro w' r n L a b c d h4 ha hb
    have := same_any r n L a c r n L b d w' ha hb (by omega) (by omega)
    rw [same_yes] at this
    exact this
  have HZ : Hid (∀ w' : World, Calls Tryd.prog 22 #[.agg #[.int .i64 0, .int .i64 0, .slice none 0 0], .agg #[.int .i64 0, .int .i64 0, .slice none 0 0]] w' fun e w2 => e = .returned (.bool true) ∧ Gr w' w2) := fun w' => HSAM.out w' 0 0 [] none none 0 0 (by simp) HopsAt.nil HopsAt.nil
  -- the text that came in
  have h4 : (readL s.data.toList).length ≤ 4 := readH_len 4 _ _
  have HL : Hid (HopsAt w ad L) := hL
  obtain ⟨⟨r2, n2⟩, hrn⟩ : ∃ x, readR s.data.toList = x := ⟨_, rfl⟩
  obtain ⟨L2, hL2⟩ : ∃ x, readL s.data.toList = x := ⟨_, rfl⟩
  have HPB : Hid (parB s.data.toList = (Idn.mayB r2 n2 L2 && decide (Idn.showT r2 n2 L2 = s.data.toList))) := by
    show _ = _
    unfold parB; rw [hrn, hL2]
  rw [hrn, hL2] at HP0
  simp only at HP0
  rw [hL2] at h4
  have HSH2 : Hid (∀ (w' : World) (a : Option Addr) (c : Nat), parB s.data.toList = true → Gr w w' → HopsAt w' a L2 → Calls Tryd.prog 27 #[.agg #[.int .i64 r2, .int .i64 n2, .slice a L2.length c]] w' fun e w2 => e = .returned (.tuple #[.string s, .int .i64 0]) ∧ Gr w' w2) := by
    intro w' a c hb g ha
    rw [HPB.out, Bool.and_eq_true, decide_eq_true_eq] at hb
    refine (show_any r2 n2 L2 a c w' ha (by omega) (he.gr g)).mono ?_
    rintro e w2 ⟨⟨_, rfl⟩ | ⟨h, _⟩, hg⟩
    · rw [hb.2]; exact ⟨rfl, hg⟩
    · rw [hb.1] at h; cases h
  have HCH2 : Hid (∀ (w' : World) (a : Option Addr) (c : Nat), parB s.data.toList = true → HopsAt w' a L2 → Calls Tryd.prog 9 #[.agg #[.int .i64 r2, .int .i64 n2, .slice a L2.length c]] w' fun e w2 => e = .returned (.int .i64 0) ∧ Gr w' w2) := by
    intro w' a c hb ha
    rw [HPB.out, Bool.and_eq_true, decide_eq_true_eq] at hb
    have := check_any r2 n2 L2 a c w' ha (by omega)
    rw [hb.1] at this
    exact this
  clear hrn hL2 hL
  by_cases hm : Idn.mayB r n L = true
  · obtain ⟨hR, hRL⟩ := read_show r n L hm
    have hPS := par_show r n L hm
    have hl4 := may_len hm
    have HS : Hid (∀ w', Gr w w' → Calls Tryd.prog 27 #[.agg #[.int .i64 r, .int .i64 n, .slice ad L.length cap]] w' fun e w2 => e = .returned (.tuple #[.string ⟨(Idn.showT r n L).toArray⟩, .int .i64 0]) ∧ Gr w' w2) := by
      intro w' g
      refine (HS0 w' g).mono ?_
      rintro e w2 ⟨⟨_, rfl⟩ | ⟨h, _⟩, hg⟩
      · exact ⟨rfl, hg⟩
      · rw [hm] at h; cases h
    have hlen := show_len r n L (may_root hm).1 (may_root hm).2.1 (may_root hm).2.2.1 (may_root hm).2.2.2.1 (may_root hm).2.2.2.2.2
    have HQ : Hid (∀ w', Gr w w' → Calls Tryd.prog 29 #[.string ⟨(Idn.showT r n L).toArray⟩] w' fun e w2 => ∃ ad2 cap2, e = .returned (.tuple #[.agg #[.int .i64 r, .int .i64 n, .slice ad2 L.length cap2], .int .i64 0]) ∧ HopsAt w2 ad2 L ∧ Gr w' w2) := by
      intro w' g
      refine (parse_any ⟨(Idn.showT r n L).toArray⟩ w' (by simp [ByteArray.size]; omega) (he.gr g)).mono ?_
      rintro e w2 ⟨⟨_, ad2, cap2, rfl, _, h⟩ | ⟨h, _⟩, hg⟩
      · have e1 : readR (⟨(Idn.showT r n L).toArray⟩ : ByteArray).data.toList = (r, n) := hR
        have e2 : readL (⟨(Idn.showT r n L).toArray⟩ : ByteArray).data.toList = L := hRL
        rw [e1, e2]
        rw [e2] at h
        exact ⟨ad2, cap2, rfl, h, hg⟩
      · exact absurd (h.symm.trans hPS) (by simp)
    generalize (⟨(Idn.showT r n L).toArray⟩ : ByteArray) = t at *
    clear hR hRL hPS HS0 hlen hm he
    by_cases hb : parB s.data.toList = true
    · have HPT : Hid (parB s.data.toList = true) := hb
      have HP : Hid (∀ w', Gr w w' → Calls Tryd.prog 29 #[.string s] w' fun e w2 => ∃ ad2 cap2, e = .returned (.tuple #[.agg #[.int .i64 r2, .int .i64 n2, .slice ad2 L2.length cap2], .int .i64 0]) ∧ HopsAt w2 ad2 L2 ∧ Gr w' w2) := by
        intro w' g
        refine (HP0 w' g).mono ?_
        rintro e w2 ⟨⟨_, ad2, cap2, rfl, _, h⟩ | ⟨h, _⟩, hg⟩
        · exact ⟨ad2, cap2, rfl, h, hg⟩
        · rw [hb] at h; cases h
      clear HP0 HPB hb HZ
      go_enter Tryd.func7, Tryd.ntmps7
      go_wp2_with fail
      refine (HS.out _ (by repeat (first | exact Gr.refl _ | refine Gr.alloc ?_ | refine Gr.drew ?_ | refine Gr.trans ?_ (by assumption)))).mono ?_
      rintro e1 w1 ⟨rfl, hg1⟩
      have B1 := (BoxAt.new w (.int .i64 r) (.int .i64 n) (.slice ad L.length cap) 24 w.heap.size rfl).gr hg1
      have G1 : Hid (Gr w w1) := (by repeat (first | exact Gr.refl _ | refine Gr.alloc ?_ | refine Gr.drew ?_ | refine Gr.trans ?_ (by assumption)))
      clear hg1
      go_wp2_with fail
      refine (HQ.out _ G1.out).mono ?_
      rintro e2 w2 ⟨ad2, cap2, rfl, hq2, hg2⟩
      obtain ⟨y0, y1, y2, _, _, _, ylt⟩ := B1.gr hg2
      have Q2 : Hid (HopsAt w2 ad2 L) := hq2
      have G2 : Hid (Gr w w2) := G1.out.trans hg2
      clear hq2 hg2 B1
      go_wp2_with fail
      refine (HSAM.out _ r n L ad2 ad cap2 cap hl4 ?_ ?_).mono ?_
      · exact Q2.out.alloc
      · exact HL.out.gr G2.out.alloc
      rintro e3 w3 ⟨rfl, hg3⟩
      have GX : Hid (Gr w w3) := G2.out.alloc.trans hg3
      clear hg3
      go_wp2_with fail
      refine (HP.out _ ?_).mono ?_
      · exact GX.out
      rintro e4 w4 ⟨ad4, cap4, rfl, hq4, hg4⟩
      have Q4 : Hid (HopsAt (w4.alloc (.cells #[.int .i64 r2, .int .i64 n2, .slice ad4 L2.length cap4] 24)) ad4 L2) := hq4.alloc
      have G4 : Hid (Gr w w4) := GX.out.trans hg4
      clear hq4 hg4
      go_wp2_with fail
      refine (HSH2.out _ _ _ HPT.out ?_ Q4.out).mono ?_
      · exact G4.out.alloc
      rintro e5 w5 ⟨rfl, hg5⟩
      obtain ⟨z0, z1, z2, _, _, _, zlt⟩ := (BoxAt.new w4 (.int .i64 r2) (.int .i64 n2) (.slice ad4 L2.length cap4) 24 _ rfl).gr hg5
      have Q5 : Hid (HopsAt w5 ad4 L2) := Q4.out.gr hg5
      have G5 : Hid (Gr w w5) := G4.out.alloc.trans hg5
      clear hg5
      go_wp2_with fail
      refine (HCH2.out _ _ _ HPT.out Q5.out).mono ?_
      rintro e6 w6 ⟨rfl, hg6⟩
      have G6 : Hid (Gr w w6) := G5.out.trans hg6
      clear hg6
      go_wp2_with fail
      refine (HA.out _ G6.out).mono ?_
      rintro e7 w7 ⟨rfl, hg7⟩
      go_wp2
      go_ret
      exact ⟨rfl, G6.out.trans hg7⟩
    · have HP : Hid (∀ w', Gr w w' → Calls Tryd.prog 29 #[.string s] w' fun e w2 => e = .returned (.tuple #[.agg #[.int .i64 0, .int .i64 0, .slice none 0 0], .int .i64 30]) ∧ Gr w' w2) := by
        intro w' g
        refine (HP0 w' g).mono ?_
        rintro e w2 ⟨⟨h, _⟩ | ⟨_, rfl⟩, hg⟩
        · exact absurd h hb
        · exact ⟨rfl, hg⟩
      clear HP0 HPB hb HSH2 HCH2
      go_enter Tryd.func7, Tryd.ntmps7
      go_wp2_with fail
      refine (HS.out _ (by repeat (first | exact Gr.refl _ | refine Gr.alloc ?_ | refine Gr.drew ?_ | refine Gr.trans ?_ (by assumption)))).mono ?_
      rintro e1 w1 ⟨rfl, hg1⟩
      have B1 := (BoxAt.new w (.int .i64 r) (.int .i64 n) (.slice ad L.length cap) 24 w.heap.size rfl).gr hg1
      have G1 : Hid (Gr w w1) := (by repeat (first | exact Gr.refl _ | refine Gr.alloc ?_ | refine Gr.drew ?_ | refine Gr.trans ?_ (by assumption)))
      clear hg1
      go_wp2_with fail
      refine (HQ.out _ G1.out).mono ?_
      rintro e2 w2 ⟨ad2, cap2, rfl, hq2, hg2⟩
      obtain ⟨y0, y1, y2, _, _, _, ylt⟩ := B1.gr hg2
      have Q2 : Hid (HopsAt w2 ad2 L) := hq2
      have G2 : Hid (Gr w w2) := G1.out.trans hg2
      clear hq2 hg2 B1
      go_wp2_with fail
      refine (HSAM.out _ r n L ad2 ad cap2 cap hl4 ?_ ?_).mono ?_
      · exact Q2.out.alloc
      · exact HL.out.gr G2.out.alloc
      rintro e3 w3 ⟨rfl, hg3⟩
      have GX : Hid (Gr w w3) := G2.out.alloc.trans hg3
      clear hg3
      go_wp2_with fail
      refine (HP.out _ ?_).mono ?_
      · exact GX.out
      rintro e4 w4 ⟨rfl, hg4⟩
      have G4 : Hid (Gr w w4) := GX.out.trans hg4
      clear hg4
      go_wp2_with fail
      refine (HZ.out _).mono ?_
      rintro e5 w5 ⟨rfl, hg5⟩
      have G5 : Hid (Gr w w5) := G4.out.alloc.trans hg5
      clear hg5
      go_wp2_with fail
      refine (HA.out _ G5.out).mono ?_
      rintro e7 w7 ⟨rfl, hg7⟩
      go_wp2
      go_ret
      exact ⟨rfl, G5.out.trans hg7⟩
  · have HS : Hid (∀ w', Gr w w' → Calls Tryd.prog 27 #[.agg #[.int .i64 r, .int .i64 n, .slice ad L.length cap]] w' fun e w2 => e = .returned (.tuple #[.string ⟨#[]⟩, .int .i64 30]) ∧ Gr w' w2) := by
      intro w' g
      refine (HS0 w' g).mono ?_
      rintro e w2 ⟨⟨h, _⟩ | ⟨_, rfl⟩, hg⟩
      · exact absurd h hm
      · exact ⟨rfl, hg⟩
    clear HS0 hm he
    by_cases hb : parB s.data.toList = true
    · have HPT : Hid (parB s.data.toList = true) := hb
      have HP : Hid (∀ w', Gr w w' → Calls Tryd.prog 29 #[.string s] w' fun e w2 => ∃ ad2 cap2, e = .returned (.tuple #[.agg #[.int .i64 r2, .int .i64 n2, .slice ad2 L2.length cap2], .int .i64 0]) ∧ HopsAt w2 ad2 L2 ∧ Gr w' w2) := by
        intro w' g
        refine (HP0 w' g).mono ?_
        rintro e w2 ⟨⟨_, ad2, cap2, rfl, _, h⟩ | ⟨h, _⟩, hg⟩
        · exact ⟨ad2, cap2, rfl, h, hg⟩
        · rw [hb] at h; cases h
      clear HP0 HPB hb HZ
      go_enter Tryd.func7, Tryd.ntmps7
      go_wp2_with fail
      refine (HS.out _ (by repeat (first | exact Gr.refl _ | refine Gr.alloc ?_ | refine Gr.drew ?_ | refine Gr.trans ?_ (by assumption)))).mono ?_
      rintro e1 w1 ⟨rfl, hg1⟩
      have GX : Hid (Gr w w1) := (by repeat (first | exact Gr.refl _ | refine Gr.alloc ?_ | refine Gr.drew ?_ | refine Gr.trans ?_ (by assumption)))
      clear hg1
      go_wp2_with fail
      refine (HP.out _ ?_).mono ?_
      · exact GX.out
      rintro e4 w4 ⟨ad4, cap4, rfl, hq4, hg4⟩
      have Q4 : Hid (HopsAt (w4.alloc (.cells #[.int .i64 r2, .int .i64 n2, .slice ad4 L2.length cap4] 24)) ad4 L2) := hq4.alloc
      have G4 : Hid (Gr w w4) := GX.out.trans hg4
      clear hq4 hg4
      go_wp2_with fail
      refine (HSH2.out _ _ _ HPT.out ?_ Q4.out).mono ?_
      · exact G4.out.alloc
      rintro e5 w5 ⟨rfl, hg5⟩
      obtain ⟨z0, z1, z2, _, _, _, zlt⟩ := (BoxAt.new w4 (.int .i64 r2) (.int .i64 n2) (.slice ad4 L2.length cap4) 24 _ rfl).gr hg5
      have Q5 : Hid (HopsAt w5 ad4 L2) := Q4.out.gr hg5
      have G5 : Hid (Gr w w5) := G4.out.alloc.trans hg5
      clear hg5
      go_wp2_with fail
      refine (HCH2.out _ _ _ HPT.out Q5.out).mono ?_
      rintro e6 w6 ⟨rfl, hg6⟩
      have G6 : Hid (Gr w w6) := G5.out.trans hg6
      clear hg6
      go_wp2_with fail
      refine (HA.out _ G6.out).mono ?_
      rintro e7 w7 ⟨rfl, hg7⟩
      go_wp2
      go_ret
      exact ⟨rfl, G6.out.trans hg7⟩
    · have HP : Hid (∀ w', Gr w w' → Calls Tryd.prog 29 #[.string s] w' fun e w2 => e = .returned (.tuple #[.agg #[.int .i64 0, .int .i64 0, .slice none 0 0], .int .i64 30]) ∧ Gr w' w2) := by
        intro w' g
        refine (HP0 w' g).mono ?_
        rintro e w2 ⟨⟨h, _⟩ | ⟨_, rfl⟩, hg⟩
        · exact absurd h hb
        · exact ⟨rfl, hg⟩
      clear HP0 HPB hb HSH2 HCH2
      go_enter Tryd.func7, Tryd.ntmps7
      go_wp2_with fail
      refine (HS.out _ (by repeat (first | exact Gr.refl _ | refine Gr.alloc ?_ | refine Gr.drew ?_ | refine Gr.trans ?_ (by assumption)))).mono ?_
      rintro e1 w1 ⟨rfl, hg1⟩
      have GX : Hid (Gr w w1) := (by repeat (first | exact Gr.refl _ | refine Gr.alloc ?_ | refine Gr.drew ?_ | refine Gr.trans ?_ (by assumption)))
      clear hg1
      go_wp2_with fail
      refine (HP.out _ ?_).mono ?_
      · exact GX.out
      rintro e4 w4 ⟨rfl, hg4⟩
      have G4 : Hid (Gr w w4) := GX.out.trans hg4
      clear hg4
      go_wp2_with fail
      refine (HZ.out _).mono ?_
      rintro e5 w5 ⟨rfl, hg5⟩
      have G5 : Hid (Gr w w5) := G4.out.alloc.trans hg5
      clear hg5
      go_wp2_with fail
      refine (HA.out _ G5.out).mono ?_
      rintro e7 w7 ⟨rfl, hg7⟩
      go_wp2
      go_ret
      exact ⟨rfl, G5.out.trans hg7⟩

set_option maxRecDepth 100000 in
theorem identBack_lifted (os : Os) (started : os.Started) (H : Type) (enc : TypeId × Value → H) :
    ReturnsInHanded {} Tryd.checked os 7 .any (fun w args => (Rows.identBackSpec.pre enc Tryd.prog Tryd.f7 [] false w args ∧ laidMetH Tryd.prog laidL w) ∧ sizedMet enc Tryd.prog Tryd.f7 (OpenSpec.ofChange Rows.identBackSpec) false w args)
      (Rows.identBackSpec.post enc Tryd.prog Tryd.f7 false true false false) := by
  refine returnsInHanded_of_change_and (C := Tryd.checked) (X := fun w _ => laidMetH Tryd.prog laidL w) (fun _ _ _ hh h => h.of_heap hh) own2 started (by kernel_rfl) Tryd.func7
    (ChangeSpec.witness_shaped (enc := enc) (C := Tryd.checked) (os := os) (X := fun w _ => laidMetH Tryd.prog laidL w) false (World.doorLaid Tryd.prog 400 os) #[.agg #[.int .i64 0, .int .i64 0, .slice none 0 0], .string ⟨#[]⟩] 8 rfl (World.shaped_of_RefB (by kernel_rfl) (by kernel_rfl)) (by kernel_rfl) (by kernel_rfl) (by kernel_rfl) (door_met os _)) ?_
  intro W base args ds gs before hval0 hW _ hsz0 hL _
  have hval : ∀ (j : Nat) t v, Tryd.f7.params[j]? = some t → args[j]? = some v → Value.okWide Tryd.prog W .any base t v := hval0
  have hsz : (DataW.weightsEach Tryd.prog (Tryd.f7.params.toList ++ Rows.identBackSpec.plain.varTypes Tryd.prog) (ds ++ gs)).all (· ≤ reachBytes) = true := hsz0
  have hW' := hW
  obtain ⟨p, q, hA0, hV, rfl, hfz, hnd⟩ := hW
  have hA : DataW.TrodAll enc Tryd.prog W 0 (fun _ => true) true Tryd.f7.params.toList args.toList ds p := hA0
  rw [Tryd.params7] at hA hval hsz
  obtain ⟨v0, v1, d0, d1, p0, p1, rfl, rfl, rfl, h0, h1⟩ := trodAll_two hA
  obtain ⟨rfl, rfl⟩ := trodVars_none hV
  have k0 := h0
  have lt0 : ∀ x ∈ p0, x.block < W.heap.size := by obtain ⟨m, hm⟩ := k0; exact DataW.trod_lt m _ _ _ hm
  obtain ⟨r0, n0, ad0, cap0, L0, rfl, hL0, hn0, hc0, hz0⟩ := open_id (hval 0 24 v0 rfl rfl) h0
  obtain ⟨a1, rfl, rfl, rfl, wa1⟩ := open_string Tryd.underlying9 (hval 1 9 v1 rfl rfl) h1
  have hr1 : a1.size ≤ 140737488355328 := by
    have hr := sized_string hsz (j := 1) (t := 9) rfl rfl
    have : a1.data.toList.length = a1.size := by simp
    simp only [reachBytes] at hr
    omega
  clear hA0 hval0
  have hT := env_of_laid hL
  refine (identBack_walk r0 n0 L0 ad0 cap0 a1 W hT hL0 hn0 hr1).mono fun e W' ⟨he, hg⟩ => ?_
  subst he
  exact ⟨_, rfl, _, _, _, [], _, [], hW', trodAll_mk1 (shut_bool Tryd.underlying4 _), trodAll_mk2 (Below.trod laidOut2 (by kernel_rfl) (of_decide_eq_true (by kernel_rfl)) k0 hg.below lt0) (shut_string Tryd.underlying9 wa1), rfl, hg.below.frame _, fun h => by cases h⟩

theorem identBack_holds : Rows.IdentBackSaid :=
  OpenClaim.holds_of_wide 7 Tryd.f7 rfl rfl rfl rfl rfl rfl rfl ⟨rfl, rfl, rfl, rfl, rfl⟩ rfl rfl rfl rfl rfl (by kernel_rfl) Tryd.func7 (by kernel_rfl)
    (of_decide_eq_true (by kernel_rfl)) (by unfold Func.isWrapper; first | (rw [if_pos (by decide +kernel)]; kernel_rfl) | (rw [if_neg (by decide +kernel)]; exact ⟨rfl, rfl⟩))
    (fun os started H enc _ => identBack_lifted os started H enc)

theorem identBack_card_holds : Rows.IdentBackCardSaid :=
  Claim7.holds_tied_plain_at .later [] [.data, .data, .data, .sentinel, .sentinel] true (true, "277e6cc14f7401a6a9a1c21fe2b51decf720abce8c863ec0bbe33a0b21fb3711") true
    identBack_holds (fun _ h => by cases h) (by kernel_rfl) (fun _ h => by cases h) identBack_row_tie rfl ⟨rfl, rfl⟩ (by kernel_rfl) rfl
    (fun f fn hf hfn => by
      obtain rfl : f = 7 := Option.some.inj ((show Tryd.prog.funcNamed "entente/ententelaw03.IdentBack" = some 7 by kernel_rfl).symm.trans hf) |>.symm
      obtain rfl : fn = Tryd.f7 := (Option.some.inj (Tryd.func7.symm.trans hfn)).symm
      exact ⟨by kernel_rfl, fun j t ht => by
        rw [Tryd.params7] at ht
        have hm : t ∈ [24, 9] := by simpa using Array.mem_of_getElem? ht
        have hall : ([24, 9].all fun u => !Tryd.prog.wantsStandIn u) = true := by kernel_rfl
        exact (show Tryd.prog.wantsStandIn t = false by simpa using List.all_eq_true.1 hall t hm)⟩)
    (by kernel_rfl)
end Go.Proofs.YtecpppppadoppaaDoor
