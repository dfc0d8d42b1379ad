/- For every input the law IdentTexts answers true: any id is written, and any text read, as the document says, or refused. -/
import Derived.Test.YtmidlcipbpchgaaDoorLaidR
import Derived.Test.YtmidlcipbpchgaaDoorOpenI
import Derived.Test.YtmidlcipbpchgaaDoorAwk3
import Derived.Test.YtmidlcipbpchgaaDoorParR
import Derived.Test.YtmidlcipbpchgaaDoorRCmpP
import Derived.SevenTiedAt
namespace Go.Proofs.YtmidlcipbpchgaaDoor
open Go.ChangeShapes Go.WideShapes Go.ChangeAt Go.RowKit
open Go.ChangeMaps (open_string shut_string)

theorem shows (r n : Int) (L : List (Int × Int)) (ad : Option Addr) (cap : Nat) (w : World) (he : Env w) (hL : HopsAt w ad L) (hn : L.length ≤ 9223372036854775807) :
    ∃ (st : List UInt8) (ev : Int), (∀ w', Gr w w' → Calls Tryd.prog 27 #[.agg #[.int .i64 r, .int .i64 n, .slice ad L.length cap]] w' fun e w2 => e = .returned (.tuple #[.string ⟨st.toArray⟩, .int .i64 ev]) ∧ Gr w' w2) ∧ (∀ w', Gr w w' → Calls Tryd.prog 28 #[.agg #[.int .i64 r, .int .i64 n, .slice ad L.length cap]] w' fun e w2 => e = .returned (.tuple #[.string ⟨st.toArray⟩, .int .i64 ev]) ∧ Gr w' w2) := by
  cases hm : Idn.mayB r n L with
  | true =>
    refine ⟨Idn.showT r n L, 0, fun w' g => (show_any r n L ad cap w' (hL.gr g) hn (he.gr g)).mono ?_, fun w' g => (refShow_any r n L ad cap w' (hL.gr g) hn).mono ?_⟩
    · rintro e w2 ⟨⟨_, rfl⟩ | ⟨h, _⟩, hg⟩
      · exact ⟨rfl, hg⟩
      · rw [hm] at h; cases h
    · rintro e w2 ⟨⟨_, rfl⟩ | ⟨h, _⟩, hg⟩
      · exact ⟨rfl, hg⟩
      · rw [hm] at h; cases h
  | false =>
    refine ⟨[], 30, fun w' g => (show_any r n L ad cap w' (hL.gr g) hn (he.gr g)).mono ?_, fun w' g => (refShow_any r n L ad cap w' (hL.gr g) hn).mono ?_⟩
    · rintro e w2 ⟨⟨h, _⟩ | ⟨_, rfl⟩, hg⟩
      · rw [hm] at h; cases h
      · exact ⟨rfl, hg⟩
    · rintro e w2 ⟨⟨h, _⟩ | ⟨_, rfl⟩, hg⟩
      · rw [hm] at h; cases h
      · exact ⟨rfl, hg⟩
theorem parses (s : ByteArray) (w : World) (he : Env w) (hs : s.size ≤ 140737488355328) :
    ∃ (rp np pv : Int) (Lp : List (Int × Int)), Lp.length ≤ 900 ∧ (∀ w', Gr w w' → Calls Tryd.prog 29 #[.string s] w' fun e w2 => ∃ ad2 cap2, e = .returned (.tuple #[.agg #[.int .i64 rp, .int .i64 np, .slice ad2 Lp.length cap2], .int .i64 pv]) ∧ HopsAt w2 ad2 Lp ∧ Gr w' w2) ∧ (∀ w', Gr w w' → Calls Tryd.prog 30 #[.string s] w' fun e w2 => ∃ ad2 cap2, e = .returned (.tuple #[.agg #[.int .i64 rp, .int .i64 np, .slice ad2 Lp.length cap2], .int .i64 pv]) ∧ HopsAt w2 ad2 Lp ∧ Gr w' w2) := by
  have hrp := ref_par s.data.toList
  cases hm : parB s.data.toList with
  | true =>
    rw [hm, if_pos rfl] at hrp
    have hlen := readH_len 4 (Idn.cut3 s.data.toList 47).2.1 (Idn.cut3 s.data.toList 47).2.2
    refine ⟨(readR s.data.toList).1, (readR s.data.toList).2, 0, readL s.data.toList, by unfold readL; omega, fun w' g => (parse_any s w' hs (he.gr g)).mono ?_, fun w' g => (refParse_any s w' hs).mono ?_⟩
    · rintro e w2 ⟨⟨_, a, c, rfl, _, h⟩ | ⟨h, _⟩, hg⟩
      · exact ⟨a, c, rfl, h, hg⟩
      · rw [hm] at h; cases h
    · rintro e w2 ⟨⟨r, n, L, a, c, h1, rfl, h2⟩ | ⟨h, _⟩, hg⟩
      · rw [hrp] at h1
        simp only [Option.some.injEq, Prod.mk.injEq] at h1
        obtain ⟨e1, e2, e3⟩ := h1
        subst e1 e2 e3
        exact ⟨a, c, rfl, h2, hg⟩
      · rw [hrp] at h; cases h
  | false =>
    rw [hm, if_neg (by simp)] at hrp
    refine ⟨0, 0, 30, [], by simp, fun w' g => (parse_any s w' hs (he.gr g)).mono ?_, fun w' g => (refParse_any s w' hs).mono ?_⟩
    · rintro e w2 ⟨⟨h, _⟩ | ⟨_, rfl⟩, hg⟩
      · rw [hm] at h; cases h
      · exact ⟨none, 0, rfl, HopsAt.nil, hg⟩
    · rintro e w2 ⟨⟨r, n, L, a, c, h1, _⟩ | ⟨_, rfl⟩, hg⟩
      · rw [hrp] at h1; cases h1
      · exact ⟨none, 0, rfl, HopsAt.nil, hg⟩

set_option maxHeartbeats 20000000 in
set_option maxRecDepth 100000 in
theorem identTexts_walk (r n : Int) (L : List (Int × Int)) (ad : Option Addr) (cap : Nat) (s : ByteArray) (w : World) (he : Env w) (hL : HopsAt w ad L) (hn : L.length ≤ 9223372036854775807) (hs : s.size ≤ 140737488355328) :
    Calls Tryd.prog 6 #[.agg #[.int .i64 r, .int .i64 n, .slice ad L.length cap], .string s] w fun e w' => e = .returned (.bool true) ∧ Gr w w' := by
  have HA : Hid (∀ w', Gr w w' → Calls Tryd.prog 16 #[] w' fun e w2 => e = .returned (.bool true) ∧ Gr w' w2) := fun w' g => awake_any w' (he.gr g)
  obtain ⟨st, ev, h1, h2⟩ := shows r n L ad cap w he hL hn
  obtain ⟨rp, np, pv, Lp, hlp, h3, h4⟩ := parses s w he hs
  have H1 : Hid (∀ w', Gr w w' → Calls Tryd.prog 27 #[.agg #[.int .i64 r, .int .i64 n, .slice ad L.length cap]] w' fun e w2 => e = .returned (.tuple #[.string ⟨st.toArray⟩, .int .i64 ev]) ∧ Gr w' w2) := h1
  have H2 : Hid (∀ w', Gr w w' → Calls Tryd.prog 28 #[.agg #[.int .i64 r, .int .i64 n, .slice ad L.length cap]] w' fun e w2 => e = .returned (.tuple #[.string ⟨st.toArray⟩, .int .i64 ev]) ∧ Gr w' w2) := h2
  have H3 : Hid (∀ w', Gr w w' → Calls Tryd.prog 29 #[.string s] w' fun e w2 => ∃ ad2 cap2, e = .returned (.tuple #[.agg #[.int .i64 rp, .int .i64 np, .slice ad2 Lp.length cap2], .int .i64 pv]) ∧ HopsAt w2 ad2 Lp ∧ Gr w' w2) := h3
  have H4 : Hid (∀ w', Gr w w' → Calls Tryd.prog 30 #[.string s] w' fun e w2 => ∃ ad2 cap2, e = .returned (.tuple #[.agg #[.int .i64 rp, .int .i64 np, .slice ad2 Lp.length cap2], .int .i64 pv]) ∧ HopsAt w2 ad2 Lp ∧ Gr w' w2) := h4
  have HS : Hid (∀ (w' : World) (a b : Option Addr) (c d : Nat), HopsAt w' a Lp → HopsAt w' b Lp → Calls Tryd.prog 22 #[.agg #[.int .i64 rp, .int .i64 np, .slice a Lp.length c], .agg #[.int .i64 rp, .int .i64 np, .slice b Lp.length d]] w' fun e w2 => e = .returned (.bool true) ∧ Gr w' w2) := by
    intro w' a b c d ha hb
    have := same_any rp np Lp a c rp np Lp b d w' ha hb (by omega) (by omega)
    rw [show sameB rp np Lp rp np Lp = true by simp [sameB]] at this
    exact this
  have e1 : (st == st) = true := by simp
  have e2 : (ev == ev) = true := by simp
  have e3 : (pv == pv) = true := by simp
  clear h1 h2 h3 h4 he hL
  go_enter Tryd.func6, Tryd.ntmps6
  go_wp2_with fail
  refine (H1.out _ (by repeat (first | exact Gr.refl _ | refine Gr.alloc ?_ | refine Gr.drew ?_ | refine Gr.trans ?_ (by assumption)))).mono ?_
  rintro q1 w1 ⟨rfl, hg1⟩
  have B1 : Hid (BoxAt w1 w.heap.size (.int .i64 r) (.int .i64 n) (.slice ad L.length cap)) := (BoxAt.new w _ _ _ 24 _ rfl).gr hg1
  have G1 : Hid (Gr w w1) := (by repeat (first | exact Gr.refl _ | refine Gr.alloc ?_ | refine Gr.drew ?_ | refine Gr.trans ?_ (by assumption)))
  clear hg1
  obtain ⟨a0, a1, a2, _, _, _, alt⟩ := B1.out
  go_wp2_with fail
  refine (H2.out _ G1.out).mono ?_
  rintro q2 w2 ⟨rfl, hg2⟩
  have G2 : Hid (Gr w w2) := G1.out.trans hg2
  clear hg2 B1 G1 a0 a1 a2 alt
  go_wp2_with fail
  refine (H3.out _ G2.out).mono ?_
  rintro q3 w3 ⟨ad3, cap3, rfl, p3, hg3⟩
  have G3 : Hid (Gr w w3) := G2.out.trans hg3
  have P3 : Hid (HopsAt w3 ad3 Lp) := p3
  clear hg3 p3 G2
  go_wp2_with fail
  refine (H4.out _ ?_).mono ?_
  · exact G3.out.alloc
  rintro q4 w4 ⟨ad4, cap4, rfl, p4, hg4⟩
  have G4 : Hid (Gr w w4) := G3.out.alloc.trans hg4
  have P4 : Hid (HopsAt w4 ad3 Lp) := P3.out.alloc.gr hg4
  have R4 : Hid (HopsAt w4 ad4 Lp) := p4
  have B4 : Hid (BoxAt w4 w3.heap.size (.int .i64 rp) (.int .i64 np) (.slice ad3 Lp.length cap3)) := (BoxAt.new w3 _ _ _ 24 _ rfl).gr hg4
  clear hg4 p4 G3 P3
  obtain ⟨a0, a1, a2, _, _, _, alt⟩ := B4.out
  go_wp2_with fail
  refine (HS.out _ _ _ _ _ P4.out.alloc R4.out.alloc).mono ?_
  rintro q5 w5 ⟨rfl, hg5⟩
  have G5 : Hid (Gr w w5) := G4.out.alloc.trans hg5
  clear hg5
  go_wp2_with fail
  refine (HA.out _ G5.out).mono ?_
  rintro q6 w6 ⟨rfl, hg6⟩
  go_wp2
  go_ret
  exact ⟨rfl, G5.out.trans hg6⟩

set_option maxRecDepth 100000 in
theorem identTexts_lifted (os : Os) (started : os.Started) (H : Type) (enc : TypeId × Value → H) :
    ReturnsInHanded {} Tryd.checked os 6 .any (fun w args => (Rows.identTextsSpec.pre enc Tryd.prog Tryd.f6 [] false w args ∧ laidMetH Tryd.prog laidL w) ∧ sizedMet enc Tryd.prog Tryd.f6 (OpenSpec.ofChange Rows.identTextsSpec) false w args)
      (Rows.identTextsSpec.post enc Tryd.prog Tryd.f6 false true false false) := by
  refine returnsInHanded_of_change_and (C := Tryd.checked) (X := fun w _ => laidMetH Tryd.prog laidL w) (fun _ _ _ hh h => h.of_heap hh) own2 started (by kernel_rfl) Tryd.func6
    (ChangeSpec.witness_shaped (enc := enc) (C := Tryd.checked) (os := os) (X := fun w _ => laidMetH Tryd.prog laidL w) false (World.doorLaid Tryd.prog 400 os) #[.agg #[.int .i64 0, .int .i64 0, .slice none 0 0], .string ⟨#[]⟩] 8 rfl (World.shaped_of_RefB (by kernel_rfl) (by kernel_rfl)) (by kernel_rfl) (by kernel_rfl) (by kernel_rfl) (door_met os _)) ?_
  intro W base args ds gs before hval0 hW _ hsz0 hL _
  have hval : ∀ (j : Nat) t v, Tryd.f6.params[j]? = some t → args[j]? = some v → Value.okWide Tryd.prog W .any base t v := hval0
  have hsz : (DataW.weightsEach Tryd.prog (Tryd.f6.params.toList ++ Rows.identTextsSpec.plain.varTypes Tryd.prog) (ds ++ gs)).all (· ≤ reachBytes) = true := hsz0
  have hW' := hW
  obtain ⟨p, q, hA0, hV, rfl, hfz, hnd⟩ := hW
  have hA : DataW.TrodAll enc Tryd.prog W 0 (fun _ => true) true Tryd.f6.params.toList args.toList ds p := hA0
  rw [Tryd.params6] at hA hval hsz
  obtain ⟨v0, v1, d0, d1, p0, p1, rfl, rfl, rfl, h0, h1⟩ := trodAll_two hA
  obtain ⟨rfl, rfl⟩ := trodVars_none hV
  have k0 := h0
  have lt0 : ∀ x ∈ p0, x.block < W.heap.size := by obtain ⟨m, hm⟩ := k0; exact DataW.trod_lt m _ _ _ hm
  obtain ⟨r0, n0, ad0, cap0, L0, rfl, hL0, hn0, hc0, hz0⟩ := open_id (hval 0 24 v0 rfl rfl) h0
  obtain ⟨a1, rfl, rfl, rfl, wa1⟩ := open_string Tryd.underlying9 (hval 1 9 v1 rfl rfl) h1
  have hr1 : a1.size ≤ 140737488355328 := by
    have hr := sized_string hsz (j := 1) (t := 9) rfl rfl
    have : a1.data.toList.length = a1.size := by simp
    simp only [reachBytes] at hr
    omega
  clear hA0 hval0
  have hT := env_of_laid hL
  refine (identTexts_walk r0 n0 L0 ad0 cap0 a1 W hT hL0 hn0 hr1).mono fun e W' ⟨he, hg⟩ => ?_
  subst he
  exact ⟨_, rfl, _, _, _, [], _, [], hW', trodAll_mk1 (shut_bool Tryd.underlying4 _), trodAll_mk2 (Below.trod laidOut2 (by kernel_rfl) (of_decide_eq_true (by kernel_rfl)) k0 hg.below lt0) (shut_string Tryd.underlying9 wa1), rfl, hg.below.frame _, fun h => by cases h⟩

theorem identTexts_holds : Rows.IdentTextsSaid :=
  OpenClaim.holds_of_wide 6 Tryd.f6 rfl rfl rfl rfl rfl rfl rfl ⟨rfl, rfl, rfl, rfl, rfl⟩ rfl rfl rfl rfl rfl (by kernel_rfl) Tryd.func6 (by kernel_rfl)
    (of_decide_eq_true (by kernel_rfl)) (by unfold Func.isWrapper; first | (rw [if_pos (by decide +kernel)]; kernel_rfl) | (rw [if_neg (by decide +kernel)]; exact ⟨rfl, rfl⟩))
    (fun os started H enc _ => identTexts_lifted os started H enc)

theorem identTexts_card_holds : Rows.IdentTextsCardSaid :=
  Claim7.holds_tied_plain_at .later [] [.data, .data, .data, .sentinel, .sentinel] true (true, "277e6cc14f7401a6a9a1c21fe2b51decf720abce8c863ec0bbe33a0b21fb3711") true
    identTexts_holds (fun _ h => by cases h) (by kernel_rfl) (fun _ h => by cases h) identTexts_row_tie rfl ⟨rfl, rfl⟩ (by kernel_rfl) rfl
    (fun f fn hf hfn => by
      obtain rfl : f = 6 := Option.some.inj ((show Tryd.prog.funcNamed "entente/ententelaw03.IdentTexts" = some 6 by kernel_rfl).symm.trans hf) |>.symm
      obtain rfl : fn = Tryd.f6 := (Option.some.inj (Tryd.func6.symm.trans hfn)).symm
      exact ⟨by kernel_rfl, fun j t ht => by
        rw [Tryd.params6] at ht
        have hm : t ∈ [24, 9] := by simpa using Array.mem_of_getElem? ht
        have hall : ([24, 9].all fun u => !Tryd.prog.wantsStandIn u) = true := by kernel_rfl
        exact (show Tryd.prog.wantsStandIn t = false by simpa using List.all_eq_true.1 hall t hm)⟩)
    (by kernel_rfl)
end Go.Proofs.YtmidlcipbpchgaaDoor
