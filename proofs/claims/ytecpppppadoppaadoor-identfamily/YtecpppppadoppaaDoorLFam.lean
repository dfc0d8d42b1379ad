/- For every input the law IdentFamily answers true: any id has the document's parent, and children, or none. -/
import Derived.Test.YtecpppppadoppaaDoorLaidR
import Derived.Test.YtecpppppadoppaaDoorOpenI
import Derived.Test.YtecpppppadoppaaDoorAwk3
import Derived.Test.YtecpppppadoppaaDoorRCmpP
import Derived.Test.YtecpppppadoppaaDoorRChiN
import Derived.Test.YtecpppppadoppaaDoorFewP
import Derived.SevenTiedAt
namespace Go.Proofs.YtecpppppadoppaaDoor
open Go.ChangeShapes Go.WideShapes Go.ChangeAt Go.RowKit
open Go.ChangeMaps (open_string shut_string)

theorem lens_lit1 (w : World) (a1 b1 : Value) (d1 : Option Addr) (l1 c1 : Nat) (t : TypeId) (g : Nat) (hg : g = w.heap.size) :
    LensAt (w.alloc (.cells #[a1, b1, .slice d1 l1 c1] t)) (some ⟨g, 0, none⟩) [l1] := by
  subst hg
  intro j hj
  obtain rfl : j = 0 := by simpa using hj
  exact ⟨_, _, rfl, by simp, d1, c1, by simp⟩

theorem parents (r n : Int) (L : List (Int × Int)) (ad : Option Addr) (cap : Nat) (w : World) (hL : HopsAt w ad L) (hn : L.length ≤ 900) (hc : L.length ≤ cap) :
    ∃ (rp np sp : Int) (Lp : List (Int × Int)) (ok : Bool), Lp.length ≤ 900 ∧
      (∀ w', Gr w w' → Calls Tryd.prog 18 #[.agg #[.int .i64 r, .int .i64 n, .slice ad L.length cap]] w' fun e w2 => ∃ ad2 cap2, e = .returned (.tuple #[.agg #[.int .i64 rp, .int .i64 np, .slice ad2 Lp.length cap2], .int .i64 sp, .bool ok]) ∧ HopsAt w2 ad2 Lp ∧ Gr w' w2) ∧
      (∀ w', Gr w w' → Calls Tryd.prog 19 #[.agg #[.int .i64 r, .int .i64 n, .slice ad L.length cap]] w' fun e w2 => ∃ ad2 cap2, e = .returned (.tuple #[.agg #[.int .i64 rp, .int .i64 np, .slice ad2 Lp.length cap2], .int .i64 sp, .bool ok]) ∧ HopsAt w2 ad2 Lp ∧ Gr w' w2) := by
  by_cases h : Idn.mayB r n L = false ∨ L = []
  · refine ⟨0, 0, 0, [], false, by simp, fun w' g => (parent_no r n L ad cap w' (hL.gr g) (by omega) h).mono ?_, fun w' g => (refParent_no r n L ad cap w' (hL.gr g) (by omega) h).mono ?_⟩
    · rintro e w2 ⟨rfl, hg⟩; exact ⟨none, 0, rfl, HopsAt.nil, hg⟩
    · rintro e w2 ⟨rfl, hg⟩; exact ⟨none, 0, rfl, HopsAt.nil, hg⟩
  · rw [not_or] at h
    have hm : Idn.mayB r n L = true := by simpa using h.1
    have h4 := may_len hm
    obtain ⟨M, ⟨s, o⟩, rfl⟩ : ∃ M x, L = M ++ [x] := ⟨L.dropLast, L.getLast h.2, (List.dropLast_concat_getLast h.2).symm⟩
    rw [List.length_append] at h4 hc ⊢
    simp at h4
    obtain ⟨b, off, rfl, _⟩ := hL 0 (by simp)
    refine ⟨r, n, s, M, true, by omega, fun w' g => (parent_yes r n s o M b off cap w' (hL.gr g) hc hm (by omega)).mono ?_, fun w' g => (refParent_yes r n s o M b off cap w' (hL.gr g) hc hm (by omega)).mono ?_⟩
    · rintro e w2 ⟨a, c, rfl, _, hh, hg⟩; exact ⟨a, c, rfl, hh, hg⟩
    · rintro e w2 ⟨a, c, rfl, _, hh, hg⟩; exact ⟨a, c, rfl, hh, hg⟩
theorem childs (r n s o : Int) (L : List (Int × Int)) (ad : Option Addr) (cap : Nat) (w : World) (hL : HopsAt w ad L) (hz : ad = none → cap = 0) (hn : L.length ≤ 800) :
    ∃ (rp np ev : Int) (Lp : List (Int × Int)), Lp.length ≤ 900 ∧
      (∀ w', Gr w w' → Calls Tryd.prog 20 #[.agg #[.int .i64 r, .int .i64 n, .slice ad L.length cap], .int .i64 s, .int .i64 o] w' fun e w2 => ∃ ad2 cap2, e = .returned (.tuple #[.agg #[.int .i64 rp, .int .i64 np, .slice ad2 Lp.length cap2], .int .i64 ev]) ∧ HopsAt w2 ad2 Lp ∧ Gr w' w2) ∧
      (∀ w', Gr w w' → Calls Tryd.prog 21 #[.agg #[.int .i64 r, .int .i64 n, .slice ad L.length cap], .int .i64 s, .int .i64 o] w' fun e w2 => ∃ ad2 cap2, e = .returned (.tuple #[.agg #[.int .i64 rp, .int .i64 np, .slice ad2 Lp.length cap2], .int .i64 ev]) ∧ HopsAt w2 ad2 Lp ∧ Gr w' w2) := by
  cases hm : Idn.mayB r n (L ++ [(s, o)]) with
  | true =>
    refine ⟨r, n, 0, L ++ [(s, o)], by simp; omega, fun w' g => (child_any r n s o L ad cap w' (hL.gr g) hz (by omega)).mono ?_, fun w' g => (refChild_any r n s o L ad cap w' (hL.gr g) hz (by omega)).mono ?_⟩
    · rintro e w2 ⟨⟨_, a, c, rfl, _, hh⟩ | ⟨h, _⟩, hg⟩
      · exact ⟨a, c, by rw [List.length_append]; rfl, hh, hg⟩
      · rw [hm] at h; cases h
    · rintro e w2 ⟨⟨_, a, c, rfl, _, hh⟩ | ⟨h, _⟩, hg⟩
      · exact ⟨a, c, by rw [List.length_append]; rfl, hh, hg⟩
      · rw [hm] at h; cases h
  | false =>
    refine ⟨0, 0, 30, [], by simp, fun w' g => (child_any r n s o L ad cap w' (hL.gr g) hz (by omega)).mono ?_, fun w' g => (refChild_any r n s o L ad cap w' (hL.gr g) hz (by omega)).mono ?_⟩
    · rintro e w2 ⟨⟨h, _⟩ | ⟨_, rfl⟩, hg⟩
      · rw [hm] at h; cases h
      · exact ⟨none, 0, rfl, HopsAt.nil, hg⟩
    · rintro e w2 ⟨⟨h, _⟩ | ⟨_, rfl⟩, hg⟩
      · rw [hm] at h; cases h
      · exact ⟨none, 0, rfl, HopsAt.nil, hg⟩

set_option maxHeartbeats 20000000 in
set_option maxRecDepth 100000 in
theorem identFamily_walk (r n : Int) (L : List (Int × Int)) (ad : Option Addr) (cap : Nat) (s o : Int) (w : World) (he : Env w) (hL : HopsAt w ad L) (hn : L.length ≤ 9223372036854775807) (hc : L.length ≤ cap) (hz : ad = none → cap = 0) :
    Calls Tryd.prog 4 #[.agg #[.int .i64 r, .int .i64 n, .slice ad L.length cap], .int .i64 s, .int .i64 o] w fun e w' => e = .returned (.bool true) ∧ Gr w w' := by
  have HA : Hid (∀ w', Gr w w' → Calls Tryd.prog 16 #[] w' fun e w2 => e = .returned (.bool true) ∧ Gr w' w2) := fun w' g => awake_any w' (he.gr g)
  have HF : Hid (∀ (w' : World) (g : Nat), LensAt w' (some ⟨g, 0, none⟩) [L.length] → Calls Tryd.prog 17 #[.slice (some ⟨g, 0, none⟩) 1 1] w' fun e w2 => e = .returned (.bool (fewB [L.length])) ∧ w2 = w') := fun w' g h => few_any [L.length] _ 1 w' h (by simp) (by simp; omega)
  by_cases hf : fewB [L.length] = true
  · rw [hf] at HF
    have hl : L.length ≤ 200 := by simpa [fewB] using hf
    obtain ⟨rp, np, sp, Lp, ok, hlp, h1, h2⟩ := parents r n L ad cap w hL (by omega) hc
    obtain ⟨rc, nc, ev, Lc, hlc, h3, h4⟩ := childs r n s o L ad cap w hL hz (by omega)
    have H1 : Hid (∀ w', Gr w w' → Calls Tryd.prog 18 #[.agg #[.int .i64 r, .int .i64 n, .slice ad L.length cap]] w' fun e w2 => ∃ ad2 cap2, e = .returned (.tuple #[.agg #[.int .i64 rp, .int .i64 np, .slice ad2 Lp.length cap2], .int .i64 sp, .bool ok]) ∧ HopsAt w2 ad2 Lp ∧ Gr w' w2) := h1
    have H2 : Hid (∀ w', Gr w w' → Calls Tryd.prog 19 #[.agg #[.int .i64 r, .int .i64 n, .slice ad L.length cap]] w' fun e w2 => ∃ ad2 cap2, e = .returned (.tuple #[.agg #[.int .i64 rp, .int .i64 np, .slice ad2 Lp.length cap2], .int .i64 sp, .bool ok]) ∧ HopsAt w2 ad2 Lp ∧ Gr w' w2) := h2
    have H3 : Hid (∀ w', Gr w w' → Calls Tryd.prog 20 #[.agg #[.int .i64 r, .int .i64 n, .slice ad L.length cap], .int .i64 s, .int .i64 o] w' fun e w2 => ∃ ad2 cap2, e = .returned (.tuple #[.agg #[.int .i64 rc, .int .i64 nc, .slice ad2 Lc.length cap2], .int .i64 ev]) ∧ HopsAt w2 ad2 Lc ∧ Gr w' w2) := h3
    have H4 : Hid (∀ w', Gr w w' → Calls Tryd.prog 21 #[.agg #[.int .i64 r, .int .i64 n, .slice ad L.length cap], .int .i64 s, .int .i64 o] w' fun e w2 => ∃ ad2 cap2, e = .returned (.tuple #[.agg #[.int .i64 rc, .int .i64 nc, .slice ad2 Lc.length cap2], .int .i64 ev]) ∧ HopsAt w2 ad2 Lc ∧ Gr w' w2) := h4
    have HS : Hid (∀ (w' : World) (r n : Int) (L : List (Int × Int)) (a b : Option Addr) (c d : Nat), L.length ≤ 900 → HopsAt w' a L → HopsAt w' b L → Calls Tryd.prog 22 #[.agg #[.int .i64 r, .int .i64 n, .slice a L.length c], .agg #[.int .i64 r, .int .i64 n, .slice b L.length d]] w' fun e w2 => e = .returned (.bool true) ∧ Gr w' w2) := by
      intro w' r n L a b c d h4 ha hb
      have := same_any r n L a c r n L b d w' ha hb (by omega) (by omega)
      rw [show sameB r n L r n L = true by simp [sameB]] at this
      exact this
    have e1 : (sp == sp) = true := by simp
    have e2 : (ev == ev) = true := by simp
    have e3 : (ok == ok) = true := by simp
    clear h1 h2 h3 h4 hf hL he hz
    go_enter Tryd.func4, Tryd.ntmps4
    go_wp2_with fail
    refine (HF.out _ _ (lens_lit1 _ _ _ _ _ _ _ _ (by simp))).mono ?_
    rintro e0 w0 ⟨rfl, hw0⟩; obtain rfl := hw0.symm
    go_wp2_with fail
    refine (H1.out _ (by repeat (first | exact Gr.refl _ | refine Gr.alloc ?_ | refine Gr.drew ?_ | refine Gr.trans ?_ (by assumption)))).mono ?_
    rintro e1 w1 ⟨a1, c1, rfl, q1, hg1⟩
    have B1 := ((BoxAt.new w (.int .i64 r) (.int .i64 n) (.slice ad L.length cap) 24 w.heap.size rfl).gr (Gr.refl _).alloc).gr hg1
    have G1 : Hid (Gr w w1) := (by repeat (first | exact Gr.refl _ | refine Gr.alloc ?_ | refine Gr.drew ?_ | refine Gr.trans ?_ (by assumption)))
    have Q1 : Hid (HopsAt w1 a1 Lp) := q1
    clear q1 hg1
    obtain ⟨x0, x1, x2, _, _, _, xlt⟩ := id B1
    go_wp2_with fail
    refine (H2.out _ ?_).mono ?_
    · exact G1.out.alloc
    rintro e2 w2 ⟨a2, c2, rfl, q2, hg2⟩
    have B2 := (B1.gr (Gr.refl _).alloc).gr hg2
    have D2 := (BoxAt.new w1 (.int .i64 rp) (.int .i64 np) (.slice a1 Lp.length c1) 24 _ rfl).gr hg2
    have G2 : Hid (Gr w w2) := G1.out.alloc.trans hg2
    have P2 : Hid (HopsAt w2 a1 Lp) := Q1.out.alloc.gr hg2
    have Q2 : Hid (HopsAt w2 a2 Lp) := q2
    clear q2 hg2 B1 x0 x1 x2 xlt G1 Q1
    obtain ⟨x0, x1, x2, _, _, _, xlt⟩ := id B2
    go_wp2_with fail
    refine (H3.out _ ?_).mono ?_
    · exact G2.out.alloc
    rintro e3 w3 ⟨a3, c3, rfl, q3, hg3⟩
    have B3 := (B2.gr (Gr.refl _).alloc).gr hg3
    have D3 := (D2.gr (Gr.refl _).alloc).gr hg3
    have E3 := (BoxAt.new w2 (.int .i64 rp) (.int .i64 np) (.slice a2 Lp.length c2) 24 _ rfl).gr hg3
    have G3 : Hid (Gr w w3) := G2.out.alloc.trans hg3
    have P3 : Hid (HopsAt w3 a1 Lp) := P2.out.alloc.gr hg3
    have Q3 : Hid (HopsAt w3 a2 Lp) := Q2.out.alloc.gr hg3
    have R3 : Hid (HopsAt w3 a3 Lc) := q3
    clear q3 hg3 B2 D2 x0 x1 x2 xlt G2 P2 Q2
    obtain ⟨x0, x1, x2, _, _, _, xlt⟩ := id B3
    go_wp2_with fail
    refine (H4.out _ ?_).mono ?_
    · exact G3.out.alloc
    rintro e4 w4 ⟨a4, c4, rfl, q4, hg4⟩
    have D4 := (D3.gr (Gr.refl _).alloc).gr hg4
    have E4 := (E3.gr (Gr.refl _).alloc).gr hg4
    have F4 := (BoxAt.new w3 (.int .i64 rc) (.int .i64 nc) (.slice a3 Lc.length c3) 24 _ rfl).gr hg4
    have G4 : Hid (Gr w w4) := G3.out.alloc.trans hg4
    have P4 : Hid (HopsAt w4 a1 Lp) := P3.out.alloc.gr hg4
    have Q4 : Hid (HopsAt w4 a2 Lp) := Q3.out.alloc.gr hg4
    have R4 : Hid (HopsAt w4 a3 Lc) := R3.out.alloc.gr hg4
    have S4 : Hid (HopsAt w4 a4 Lc) := q4
    clear q4 hg4 B3 D3 E3 x0 x1 x2 xlt G3 P3 Q3 R3
    obtain ⟨x0, x1, x2, _, _, _, xlt⟩ := id D4
    obtain ⟨y0, y1, y2, _, _, _, ylt⟩ := id E4
    go_wp2_with fail
    refine (HS.out _ rp np Lp a1 a2 c1 c2 hlp P4.out.alloc Q4.out.alloc).mono ?_
    rintro e5 w5 ⟨rfl, hg5⟩
    obtain ⟨z0, z1, z2, _, _, _, zlt⟩ := (F4.gr (Gr.refl _).alloc).gr hg5
    obtain ⟨u0, u1, u2, _, _, _, ult⟩ := (BoxAt.new w4 (.int .i64 rc) (.int .i64 nc) (.slice a4 Lc.length c4) 24 _ rfl).gr hg5
    have G5 : Hid (Gr w w5) := G4.out.alloc.trans hg5
    have R5 : Hid (HopsAt w5 a3 Lc) := R4.out.alloc.gr hg5
    have S5 : Hid (HopsAt w5 a4 Lc) := S4.out.alloc.gr hg5
    clear hg5 D4 E4 F4 x0 x1 x2 xlt y0 y1 y2 ylt
    go_wp2_with fail
    refine (HS.out _ rc nc Lc a3 a4 c3 c4 hlc R5.out S5.out).mono ?_
    rintro e6 w6 ⟨rfl, hg6⟩
    have G6 : Hid (Gr w w6) := G5.out.trans hg6
    clear hg6
    go_wp2_with fail
    refine (HA.out _ G6.out).mono ?_
    rintro e7 w7 ⟨rfl, hg7⟩
    go_wp2
    go_ret
    exact ⟨rfl, G6.out.trans hg7⟩
  · have hf' : fewB [L.length] = false := by simpa using hf
    rw [hf'] at HF
    clear hf hf' he hL hz
    go_enter Tryd.func4, Tryd.ntmps4
    go_wp2_with fail
    refine (HF.out _ _ (lens_lit1 _ _ _ _ _ _ _ _ (by simp))).mono ?_
    rintro e1 w1 ⟨rfl, hw1⟩; obtain rfl := hw1.symm
    go_wp2_with fail
    refine (HA.out _ ?_).mono ?_
    · exact (by repeat (first | exact Gr.refl _ | refine Gr.alloc ?_ | refine Gr.drew ?_ | refine Gr.trans ?_ (by assumption)))
    rintro e2 w2 ⟨rfl, hg2⟩
    go_wp2
    go_ret
    exact ⟨rfl, (by repeat (first | exact Gr.refl _ | refine Gr.alloc ?_ | refine Gr.drew ?_ | refine Gr.trans ?_ (by assumption)))⟩

set_option maxRecDepth 100000 in
theorem identFamily_lifted (os : Os) (started : os.Started) (H : Type) (enc : TypeId × Value → H) :
    ReturnsInHanded {} Tryd.checked os 4 .any (fun w args => (Rows.identFamilySpec.pre enc Tryd.prog Tryd.f4 [] false w args ∧ laidMetH Tryd.prog laidL w) ∧ sizedMet enc Tryd.prog Tryd.f4 (OpenSpec.ofChange Rows.identFamilySpec) false w args)
      (Rows.identFamilySpec.post enc Tryd.prog Tryd.f4 false true false false) := by
  refine returnsInHanded_of_change_and (C := Tryd.checked) (X := fun w _ => laidMetH Tryd.prog laidL w) (fun _ _ _ hh h => h.of_heap hh) own2 started (by kernel_rfl) Tryd.func4
    (ChangeSpec.witness_shaped (enc := enc) (C := Tryd.checked) (os := os) (X := fun w _ => laidMetH Tryd.prog laidL w) false (World.doorLaid Tryd.prog 400 os) #[.agg #[.int .i64 0, .int .i64 0, .slice none 0 0], .int .i64 0, .int .i64 0] 8 rfl (World.shaped_of_RefB (by kernel_rfl) (by kernel_rfl)) (by kernel_rfl) (by kernel_rfl) (by kernel_rfl) (door_met os _)) ?_
  intro W base args ds gs before hval0 hW _ hsz0 hL _
  have hval : ∀ (j : Nat) t v, Tryd.f4.params[j]? = some t → args[j]? = some v → Value.okWide Tryd.prog W .any base t v := hval0
  have hsz : (DataW.weightsEach Tryd.prog (Tryd.f4.params.toList ++ Rows.identFamilySpec.plain.varTypes Tryd.prog) (ds ++ gs)).all (· ≤ reachBytes) = true := hsz0
  have hW' := hW
  obtain ⟨p, q, hA0, hV, rfl, hfz, hnd⟩ := hW
  have hA : DataW.TrodAll enc Tryd.prog W 0 (fun _ => true) true Tryd.f4.params.toList args.toList ds p := hA0
  rw [Tryd.params4] at hA hval hsz
  obtain ⟨v0, v1, v2, d0, d1, d2, p0, p1, p2, rfl, rfl, rfl, h0, h1, h2⟩ := trodAll_three hA
  obtain ⟨rfl, rfl⟩ := trodVars_none hV
  have k0 := h0
  have lt0 : ∀ x ∈ p0, x.block < W.heap.size := by obtain ⟨m, hm⟩ := k0; exact DataW.trod_lt m _ _ _ hm
  obtain ⟨r0, n0, ad0, cap0, L0, rfl, hL0, hn0, hc0, hz0⟩ := open_id (hval 0 24 v0 rfl rfl) h0
  obtain ⟨a1, rfl, rfl, rfl, wa1⟩ := open_int Tryd.underlying3 (hval 1 3 v1 rfl rfl) h1
  obtain ⟨a2, rfl, rfl, rfl, wa2⟩ := open_int Tryd.underlying3 (hval 2 3 v2 rfl rfl) h2
  clear hA0 hval0
  have hT := env_of_laid hL
  refine (identFamily_walk r0 n0 L0 ad0 cap0 a1 a2 W hT hL0 hn0 hc0 hz0).mono fun e W' ⟨he, hg⟩ => ?_
  subst he
  exact ⟨_, rfl, _, _, _, [], _, [], hW', trodAll_mk1 (shut_bool Tryd.underlying4 _), trodAll_mk3 (Below.trod laidOut2 (by kernel_rfl) (of_decide_eq_true (by kernel_rfl)) k0 hg.below lt0) (shut_int Tryd.underlying3 wa1) (shut_int Tryd.underlying3 wa2), rfl, hg.below.frame _, fun h => by cases h⟩

theorem identFamily_holds : Rows.IdentFamilySaid :=
  OpenClaim.holds_of_wide 4 Tryd.f4 rfl rfl rfl rfl rfl rfl rfl ⟨rfl, rfl, rfl, rfl, rfl⟩ rfl rfl rfl rfl rfl (by kernel_rfl) Tryd.func4 (by kernel_rfl)
    (of_decide_eq_true (by kernel_rfl)) (by unfold Func.isWrapper; first | (rw [if_pos (by decide +kernel)]; kernel_rfl) | (rw [if_neg (by decide +kernel)]; exact ⟨rfl, rfl⟩))
    (fun os started H enc _ => identFamily_lifted os started H enc)

theorem identFamily_card_holds : Rows.IdentFamilyCardSaid :=
  Claim7.holds_tied_plain_at .later [] [.data, .data, .data, .sentinel, .sentinel] true (true, "277e6cc14f7401a6a9a1c21fe2b51decf720abce8c863ec0bbe33a0b21fb3711") true
    identFamily_holds (fun _ h => by cases h) (by kernel_rfl) (fun _ h => by cases h) identFamily_row_tie rfl ⟨rfl, rfl⟩ (by kernel_rfl) rfl
    (fun f fn hf hfn => by
      obtain rfl : f = 4 := Option.some.inj ((show Tryd.prog.funcNamed "entente/ententelaw03.IdentFamily" = some 4 by kernel_rfl).symm.trans hf) |>.symm
      obtain rfl : fn = Tryd.f4 := (Option.some.inj (Tryd.func4.symm.trans hfn)).symm
      exact ⟨by kernel_rfl, fun j t ht => by
        rw [Tryd.params4] at ht
        have hm : t ∈ [24, 3, 3] := by simpa using Array.mem_of_getElem? ht
        have hall : ([24, 3, 3].all fun u => !Tryd.prog.wantsStandIn u) = true := by kernel_rfl
        exact (show Tryd.prog.wantsStandIn t = false by simpa using List.all_eq_true.1 hall t hm)⟩)
    (by kernel_rfl)
end Go.Proofs.YtecpppppadoppaaDoor
