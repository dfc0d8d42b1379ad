/- For every input the law BookTexts answers true: any book is written, and any text read, as the document says, or refused. The listed variables hold what the program's text lays. -/
import Derived.Test.YtfobfpigbfepoaaGreatDoorTLBTexts28
import Derived.Test.YtfobfpigbfepoaaGreatDoorTie
import Derived.Test.YtfobfpigbfepoaaGreatDoorCards
import Derived.Stop.LaidErr
import Derived.Lib.LaidTab
import Derived.SevenTiedAt
namespace Go.Proofs.YtfobfpigbfepoaaGreatDoor
open Go.ChangeShapes Go.WideShapes Go.ChangeAt Go.RowKit
abbrev laidL : List (String × DataW Unit) := [("math/bits.deBruijn32tab", Rows.laid_math_bits_deBruijn32tab), ("math/bits.deBruijn64tab", Rows.laid_math_bits_deBruijn64tab), ("internal/strconv.uint64pow10", Rows.laid_internal_strconv_uint64pow10)]
theorem door_met (os : Os) (args : Array Value) : laidMetH Tryz.prog laidL ((World.doorLaid Tryz.prog 400 os).forCall (fun _ _ => 0) ⟨#[], args, []⟩).memory :=
  laidMetH_of_parts3 (fuel := 8) (laidMet_of_run' 8 (by kernel_rfl) (by kernel_rfl)) (by kernel_rfl) (by kernel_rfl)
theorem env_of_laid {W : World} (h : laidMetH Tryz.prog laidL W) : Env W := by
  rw [MakeChecks.laidMetH_plain _ _ _ (by kernel_rfl)] at h
  exact ⟨Lib.tabIs_of_head (zs := Lib.pow10Tab) (k := .u64) (by kernel_rfl : Tryz.prog.globalNamed "internal/strconv.uint64pow10" = some 1) (by kernel_rfl : (Tryz.prog.globals[1]?).map (·.type) = some 156) Tryz.underlying156 Tryz.underlying146 (by kernel_rfl) (by kernel_rfl) h.tail.tail⟩
end Go.Proofs.YtfobfpigbfepoaaGreatDoor
namespace Go.Proofs.YtfobfpigbfepoaaGreatDoor
open Go.ChangeShapes Go.WideShapes Go.ChangeAt Go.RowKit
open Go.ChangeMaps (open_string shut_string)
set_option maxHeartbeats 8000000 in
set_option maxRecDepth 100000 in
theorem bookTexts_walk (D : List Dm) (s : ByteArray) (ad : Option Addr) (cap : Nat) (w : World) (he : Env w) (hB : BkAt w ad D) (hn : D.length ≤ 9223372036854775807) (hs : s.size ≤ 9223372036854775807) :
    Calls Tryz.prog 3 #[.slice ad D.length cap, .string s] w fun e w' => e = .returned (.bool true) ∧ Gr w w' := by
  have HA : Hid (∀ w', Calls Tryz.prog 5 #[] w' fun e w2 => e = .returned (.bool true) ∧ Gr w' w2) := fun w' => awake10_any w'
  have HF : Hid (∀ w', Gr w w' → Calls Tryz.prog 4 #[.slice ad D.length cap] w' fun e w2 => e = .returned (.bool (fewB D)) ∧ Gr w' w2) := fun w' g => few10_any D ad cap w' (hB.row.gr g) hn (fun d hd => (hB.rng d hd).2.1)
  have HS : Hid (∀ w', Gr w w' → Calls Tryz.prog 6 #[.slice ad D.length cap] w' fun e w2 => e = .returned (.tuple #[.string (bsT (dns D)), .int .i64 (bsZ (dns D))]) ∧ Gr w' w2) := fun w' g => show10_any D ad cap w' (hB.gr g) hn (he.gr g)
  have HT : Hid (∀ w', Gr w w' → Calls Tryz.prog 7 #[.slice ad D.length cap] w' fun e w2 => e = .returned (.tuple #[.string (bsT (dns D)), .int .i64 (bsZ (dns D))]) ∧ Gr w' w2) := fun w' g => refShow10_any D ad cap w' (hB.gr g) hn
  have HR : Hid (∀ w', Calls Tryz.prog 8 #[.string s] w' fun e w2 => ReR w' (Bk.rD s.data.toList) (Bk.rE s.data.toList) (Bk.rA s.data.toList) e w2) := fun w' => read_any s w' hs
  have HQ : Hid (∀ w', Calls Tryz.prog 9 #[.string s] w' fun e w2 => RfQ w' (Bk.rD s.data.toList) (Bk.rE s.data.toList) (Bk.rA s.data.toList) e w2) := fun w' => refRead_any s w' hs
  have HSm : Hid (∀ (R1 R2 : List Dm) (a1 : Option Addr) (c1 : Nat) (a2 : Option Addr) (c2 : Nat) w', BkAt w' a1 R1 → BkAt w' a2 R2 → dns R1 = dns R2 → R1.length ≤ 9223372036854775807 → Calls Tryz.prog 10 #[.slice a1 R1.length c1, .slice a2 R2.length c2] w' fun e w2 => e = .returned (.bool true) ∧ Gr w' w2) := by
    intro R1 R2 a1 c1 a2 c2 w' h1 h2 he hl
    have := refSame10_any R1 R2 a1 c1 a2 c2 w' h1 h2 hl
    rw [he, eqB_refl] at this
    exact this
  clear hB he hs
  generalize bsT (dns D) = TX at *
  generalize bsZ (dns D) = TZ at *
  generalize Bk.rD s.data.toList = RB at *
  generalize Bk.rE s.data.toList = RE at *
  generalize Bk.rA s.data.toList = RA at *
  cases hf : fewB D with
  | false =>
    rw [hf] at HF
    go_enter Tryz.func3, Tryz.ntmps3
    go_wp2_with fail
    refine (HF.out w (Gr.refl w)).mono ?_
    rintro e w1 ⟨rfl, hg1⟩
    go_wp2_with fail
    refine (HA.out _).mono ?_
    rintro e w2 ⟨rfl, hg2⟩
    go_wp2
    go_ret
    exact ⟨rfl, (by repeat (first | exact Gr.refl _ | refine Gr.alloc ?_ | refine Gr.drew ?_ | refine Gr.trans ?_ (by assumption)))⟩
  | true =>
    rw [hf] at HF
    clear hf
    go_enter Tryz.func3, Tryz.ntmps3
    go_wp2_with fail
    refine (HF.out w (Gr.refl w)).mono ?_
    rintro e w1 ⟨rfl, hg1⟩
    go_wp2_with fail
    refine (HS.out _ (by repeat (first | exact Gr.refl _ | refine Gr.alloc ?_ | refine Gr.drew ?_ | refine Gr.trans ?_ (by assumption)))).mono ?_
    rintro e w2 ⟨rfl, hg2⟩
    have HG2 : Hid (Gr w w2) := (by repeat (first | exact Gr.refl _ | refine Gr.alloc ?_ | refine Gr.drew ?_ | refine Gr.trans ?_ (by assumption)))
    clear hg1 hg2
    go_wp2_with fail
    refine (HT.out _ HG2.out).mono ?_
    rintro e w3 ⟨rfl, hg3⟩
    have HG3 : Hid (Gr w w3) := HG2.out.trans hg3
    clear hg3
    go_wp2_with fail
    refine (HR.out _).mono ?_
    rintro e w4 ⟨a1, c1, R1, rfl, hb1, hd1, hg4⟩
    obtain ⟨a1', c1', e1, hl1, hc1, hk1, _⟩ := hb1.at
    cases e1
    have hR1 : R1.length ≤ 9223372036854775807 := by omega
    have gF4 : Gr w4 (w4.alloc (.cells #[.int .i64 RE, .int .i64 RA] 31)) := (Gr.refl w4).alloc
    have HG4 : Hid (Gr w (w4.alloc (.cells #[.int .i64 RE, .int .i64 RA] 31))) := (HG3.out.trans hg4).trans gF4
    have HK4 := Lib.hid (hk1.gr gF4)
    have HF4 := Lib.hid (TwoAt.new w4 (.int .i64 RE) (.int .i64 RA) 31 _ rfl)
    clear hb1 hk1 hg4 gF4
    go_wp2_with fail
    refine (HQ.out _).mono ?_
    rintro e w5 ⟨a2, c2, R2, rfl, hk2, hd2, hg5⟩
    have gF5 : Gr w5 (w5.alloc (.cells #[.int .i64 RE, .int .i64 RA] 31)) := (Gr.refl w5).alloc
    have HG5 : Hid (Gr w (w5.alloc (.cells #[.int .i64 RE, .int .i64 RA] 31))) := (HG4.out.trans hg5).trans gF5
    have HK5 := Lib.hid ((HK4.out.gr hg5).gr gF5)
    have HL5 := Lib.hid (hk2.gr gF5)
    have HF5 := Lib.hid ((HF4.out.gr hg5).gr gF5)
    have HH5 := Lib.hid (TwoAt.new w5 (.int .i64 RE) (.int .i64 RA) 31 _ rfl)
    have HEq : Hid (dns R1 = dns R2) := hd1.trans hd2.symm
    clear hk2 hg5 gF5 hd1 hd2
    go_wp2_with fail
    refine (HSm.out R1 R2 a1 c1 a2 c2 _ HK5.out HL5.out HEq.out hR1).mono ?_
    rintro e w6 ⟨rfl, hg6⟩
    obtain ⟨f0, f1, _, _, fl⟩ := HF5.out.gr hg6
    obtain ⟨h0, h1, _, _, hl⟩ := HH5.out.gr hg6
    have HG6 : Hid (Gr w w6) := HG5.out.trans hg6
    clear hg6
    go_wp2_with fail
    refine (HA.out _).mono ?_
    rintro e w7 ⟨rfl, hg7⟩
    have HG7 : Hid (Gr w w7) := HG6.out.trans hg7
    clear hg7
    go_wp2
    go_ret
    exact ⟨rfl, HG7.out⟩
set_option maxRecDepth 100000 in
theorem bookTexts_lifted (os : Os) (started : os.Started) (H : Type) (enc : TypeId × Value → H) :
    ReturnsInHanded {} Tryz.checked os 3 .any (fun w args => (Rows.bookTextsSpec.pre enc Tryz.prog Tryz.f3 [] false w args ∧ laidMetH Tryz.prog laidL w) ∧ sizedMet enc Tryz.prog Tryz.f3 (OpenSpec.ofChange Rows.bookTextsSpec) false w args)
      (Rows.bookTextsSpec.post enc Tryz.prog Tryz.f3 false true false false) := by
  refine returnsInHanded_of_change_and (C := Tryz.checked) (X := fun w _ => laidMetH Tryz.prog laidL w) (fun _ _ _ hh h => h.of_heap hh) own2 started (by kernel_rfl) Tryz.func3
    (ChangeSpec.witness_shaped (enc := enc) (C := Tryz.checked) (os := os) (X := fun w _ => laidMetH Tryz.prog laidL w) false (World.doorLaid Tryz.prog 400 os) #[.slice none 0 0, .string ⟨#[]⟩] 8 rfl (World.shaped_of_RefB (by kernel_rfl) (by kernel_rfl)) (by kernel_rfl) (by kernel_rfl) (by kernel_rfl) (door_met os _)) ?_
  intro W base args ds gs before hval0 hW _ hsz0 hL _
  have hval : ∀ (j : Nat) t v, Tryz.f3.params[j]? = some t → args[j]? = some v → Value.okWide Tryz.prog W .any base t v := hval0
  have hW' := hW
  obtain ⟨p, q, hA0, hV, rfl, hfz, hnd⟩ := hW
  have hA : DataW.TrodAll enc Tryz.prog W 0 (fun _ => true) true Tryz.f3.params.toList args.toList ds p := hA0
  rw [Tryz.params3] at hA hval
  obtain ⟨v0, v1, d0, d1, p0, p1, rfl, rfl, rfl, h0, h1⟩ := trodAll_two hA
  obtain ⟨rfl, rfl⟩ := trodVars_none hV
  have k0 := h0
  have lt0 : ∀ x ∈ p0, x.block < W.heap.size := by obtain ⟨m, hm⟩ := k0; exact DataW.trod_lt m _ _ _ hm
  obtain ⟨ad0, cap0, D0, rfl, hB0, hn0, hc0, hl0, hm0⟩ := open_defs (hval 0 22 v0 rfl rfl) h0
  obtain ⟨a1, rfl, rfl, rfl, wa1⟩ := open_string Tryz.underlying9 (hval 1 9 v1 rfl rfl) h1
  have hs1 : a1.size ≤ 9223372036854775807 := len_max wa1
  clear hA0 hval0
  have hE := env_of_laid hL
  refine (bookTexts_walk D0 a1 ad0 cap0 W hE hB0 hn0 hs1).mono fun e W' ⟨he, hg⟩ => ?_
  subst he
  exact ⟨_, rfl, _, _, _, [], _, [], hW', trodAll_mk1 (shut_bool Tryz.underlying4 _), trodAll_mk2 (Below.trod laidOut2 (by kernel_rfl) (of_decide_eq_true (by kernel_rfl)) k0 hg.below lt0) (shut_string Tryz.underlying9 wa1), rfl, hg.below.frame _, fun h => by cases h⟩
theorem bookTexts_holds : Rows.BookTextsSaid :=
  OpenClaim.holds_of_wide 3 Tryz.f3 rfl rfl rfl rfl rfl rfl rfl ⟨rfl, rfl, rfl, rfl, rfl⟩ rfl rfl rfl rfl rfl (by kernel_rfl) Tryz.func3 (by kernel_rfl)
    (of_decide_eq_true (by kernel_rfl)) (by unfold Func.isWrapper; first | (rw [if_pos (by decide +kernel)]; kernel_rfl) | (rw [if_neg (by decide +kernel)]; exact ⟨rfl, rfl⟩))
    (fun os started H enc _ => bookTexts_lifted os started H enc)
theorem bookTexts_card_holds : Rows.BookTextsCardSaid :=
  Claim7.holds_tied_plain_at .later [] [.data, .data, .data] true (true, "7982d13044609d0c6367f1febe6d610c39491c070d324bc1e4e861cf7fc787c4") false
    bookTexts_holds (fun _ h => by cases h) (by kernel_rfl) (fun _ h => by cases h) bookTexts_row_tie rfl ⟨rfl, rfl⟩ (by kernel_rfl) rfl
    (fun f fn hf hfn => by
      obtain rfl : f = 3 := Option.some.inj ((show Tryz.prog.funcNamed "entente/ententelaw10.BookTexts" = some 3 by kernel_rfl).symm.trans hf) |>.symm
      obtain rfl : fn = Tryz.f3 := (Option.some.inj (Tryz.func3.symm.trans hfn)).symm
      exact ⟨by kernel_rfl, fun j t ht => by
        rw [Tryz.params3] at ht
        have hm : t ∈ [22, 9] := by simpa using Array.mem_of_getElem? ht
        have hall : ([22, 9].all fun u => !Tryz.prog.wantsStandIn u) = true := by kernel_rfl
        exact (show Tryz.prog.wantsStandIn t = false by simpa using List.all_eq_true.1 hall t hm)⟩)
    (by kernel_rfl)
end Go.Proofs.YtfobfpigbfepoaaGreatDoor
