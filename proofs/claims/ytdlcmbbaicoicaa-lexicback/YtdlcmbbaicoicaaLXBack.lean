/- For every row of tokens the law LexicBack answers true: tokens are read as they were written, but for their places. -/
import Derived.Test.YtdlcmbbaicoicaaAwkX
import Derived.Test.YtdlcmbbaicoicaaOpenT
import Derived.Test.YtdlcmbbaicoicaaLexU
import Derived.Test.YtdlcmbbaicoicaaLexD
namespace Go.Proofs.Ytdlcmbbaicoicaa
open Go.ChangeShapes Go.WideShapes Go.ChangeAt Go.RowKit
open Go.ChangeMaps (open_string shut_string)
open Lex (Tok scT scF scA S ckE jx jf butL)

theorem back_scan (T : List Tok) (h : ckE T = 0) : scF (shT T).data.toList = 0 ∧ scA (shT T).data.toList = 0 ∧ (scT (shT T).data.toList).length = T.length ∧ butL (scT (shT T).data.toList) T := by
  rcases List.eq_nil_or_concat T with rfl | ⟨I, x, rfl⟩
  · cases h
  rw [List.concat_eq_append] at *
  have hs : shT (I ++ [x]) = jx I := by unfold shT; rw [if_pos h, List.dropLast_concat]
  obtain ⟨h1, h2⟩ := ck_zero h
  have he : Lex.endT x = true := by
    rw [Lex.ck_snoc] at h
    split at h
    · assumption
    · cases h
  have hl : (jx I).data.toList = jf I := by unfold Lex.jx; simp
  obtain ⟨b1, b2⟩ := Lex.back_jf I x he h1
  have hz : ¬ 2000 < (jf I).length := by rw [Lex.jf_len]; omega
  rw [hs, hl]
  have s1 : scT (jf I) = (S (jf I) 0).1 := by unfold Lex.scT; rw [if_neg hz, b2]
  have s2 : scF (jf I) = 0 := by unfold Lex.scF; rw [if_neg hz, b2]; rfl
  have s3 : scA (jf I) = 0 := by unfold Lex.scA; rw [if_neg hz, b2]
  rw [s1, s2, s3]
  exact ⟨rfl, rfl, Lex.butL_len _ _ b1, b1⟩

set_option maxHeartbeats 4000000 in
set_option maxRecDepth 100000 in
theorem lexicBack_walk (T : List Tok) (ad : Option Addr) (cap : Nat) (w : World) (hT : ToksAt w ad T) (hc : T.length ≤ cap) (hz : ∀ x ∈ T, inK x) (hmx : T.length ≤ 9223372036854775807) : Calls Try.prog 6 #[.slice ad T.length cap] w fun e w' => e = .returned (.bool true) ∧ Gr w w' := by
  have H3 : Hid (∀ w', Calls Try.prog 12 #[] w' fun e w2 => e = .returned (.bool true) ∧ Gr w' w2) := awake_any
  by_cases hb : (5000 : Int) < (T.length : Int)
  · go_enter Try.func6, Try.ntmps6
    go_wp2_with fail
    refine (H3.out _).mono ?_
    rintro e w4 ⟨rfl, hg4⟩
    go_wp2
    go_ret
    exact ⟨rfl, hg4⟩
  have H1 : Hid (∀ w', Gr w w' → Calls Try.prog 13 #[.slice ad T.length cap] w' fun e w2 => e = .returned (.tuple #[.string (shT T), .int .i64 (ckE T)]) ∧ Gr w' w2) := fun w' g => show_any T ad cap w' (hT.gr g) hc (by omega) (fun x hx => (hz x hx).2.1)
  by_cases h0 : ckE T = 0
  · obtain ⟨s1, s2, s3, s4⟩ := back_scan T h0
    have H2 : Hid (∀ w', Calls Try.prog 9 #[.string (shT T)] w' fun e w2 => ∃ ad2 cap2, e = .returned (.tuple #[.slice ad2 T.length cap2, .agg #[.int .i64 0, .int .i64 0]]) ∧ ToksAt w2 ad2 (scT (shT T).data.toList) ∧ Gr w' w2) := by
      intro w'
      refine (Scan_any (shT T) w').mono ?_
      rintro e w2 ⟨ad2, cap2, h1, h2, h3, _, h4⟩
      rw [s1, s2, s3] at h1
      exact ⟨ad2, cap2, h1, h3, h4⟩
    have HB : Hid (∀ j (h1 : j < (scT (shT T).data.toList).length) (h2 : j < T.length), (scT (shT T).data.toList)[j].k = T[j].k ∧ (scT (shT T).data.toList)[j].t = T[j].t) := Lex.butL_get _ _ s4
    have HL : Hid ((scT (shT T).data.toList).length = T.length) := s3
    have HT : Hid (ToksAt w ad T) := hT
    rw [h0] at H1
    clear s1 s2 s3 s4 h0 hT hz hc
    generalize scT (shT T).data.toList = M at *
    generalize shT T = sT at *
    go_enter Try.func6, Try.ntmps6
    go_wp2_with fail
    refine (H1.out _ (Gr.refl _)).mono ?_
    rintro e w1 ⟨rfl, hg1⟩
    go_wp2_with fail
    refine (H2.out _).mono ?_
    rintro e w2 ⟨ad2, cap2, rfl, hT2, hg2⟩
    have HG2 : Hid (Gr w w2) := hg1.trans hg2
    have HT2 : Hid (ToksAt w2 ad2 M) := hT2
    clear hg1 hg2 hT2
    go_wp2
    go_loopw [7] (fun i wr => ∃ k : Nat, k ≤ T.length ∧ i = .int .i64 (k : Int) ∧ Gr w2 wr) (fun i _ => T.length - (intOf i).toNat)
    case atStart => exact ⟨0, by omega, rfl, (Gr.refl _).alloc⟩
    case round =>
      obtain ⟨k, hk, rfl, hg⟩ := hrel
      have HG : Hid (Gr w2 wr) := hg
      clear hg
      by_cases hlt : k < T.length
      · obtain ⟨b, off, rfl, hb1, x0, x1, x2⟩ := (HT.out.gr (HG2.out.trans HG.out)) k hlt
        obtain ⟨b', off', rfl, hb2, y0, y1, y2⟩ := (HT2.out.gr HG.out) k (by rw [HL.out]; exact hlt)
        obtain ⟨q0, q1⟩ := HB.out k (by rw [HL.out]; exact hlt) hlt
        rw [q0] at y0
        rw [q1] at y1
        clear q0 q1 y2 x2
        go_wp2
        go_quiet (fail)
        go_wp2
        go_roundw
        case rel => exact ⟨k + 1, by omega, by go_num, HG.out.trans ((Gr.refl _).drewN _)⟩
        case measure => simp [intOf]; omega
      · obtain rfl : k = T.length := by omega
        go_wp2_with fail
        refine (H3.out _).mono ?_
        rintro e w4 ⟨rfl, hg4⟩
        go_wp2
        go_ret
        exact ⟨rfl, (HG2.out.trans HG.out).trans hg4⟩
  · have hs0 : shT T = ⟨#[]⟩ := by unfold shT; rw [if_neg h0]
    rw [hs0] at H1
    have hne : (ckE T != 0) = true := by simpa using h0
    clear h0 hs0 hT hz hc
    generalize ckE T = CK at *
    go_enter Try.func6, Try.ntmps6
    go_wp2_with fail
    refine (H1.out _ (Gr.refl _)).mono ?_
    rintro e w1 ⟨rfl, hg1⟩
    go_wp2_with fail
    refine (H3.out _).mono ?_
    rintro e w4 ⟨rfl, hg4⟩
    go_wp2
    go_ret
    exact ⟨rfl, hg1.trans hg4⟩

set_option maxRecDepth 100000 in
theorem lexicBack_lifted (os : Os) (started : os.Started) (H : Type) (enc : TypeId × Value → H) :
    ReturnsInHanded {} Try.checked os 6 .any (Rows.lexicBackSpec.pre6 enc Try.prog Try.f6 Rows.lexicBackRow.domain false) (Rows.lexicBackSpec.post enc Try.prog Try.f6 false true false false) := by
  refine returnsInHanded_of_change (C := Try.checked) own2 started (by kernel_rfl) Try.func6
    (ChangeSpec.witness6 (enc := enc) (C := Try.checked) false ⟨#[], #[.slice none 0 0], []⟩ 8 (by kernel_rfl) (by kernel_rfl) (by kernel_rfl) (by kernel_rfl)) ?_
  intro W base args ds gs before hval0 hW hcnd _
  have hval : ∀ (j : Nat) t v, Try.f6.params[j]? = some t → args[j]? = some v → Value.okWide Try.prog W .any base t v := hval0
  have hW' := hW
  obtain ⟨p, q, hA0, hV, rfl, hfz, hnd⟩ := hW
  have hA : DataW.TrodAll enc Try.prog W 0 (fun _ => true) true Try.f6.params.toList args.toList ds p := hA0
  rw [Try.params6] at hA hval
  obtain ⟨v0, d0, rfl, rfl, q0⟩ := trodAll_one hA
  obtain ⟨rfl, rfl⟩ := trodVars_none hV
  have k0 := q0
  have lt0 : ∀ x ∈ p, x.block < W.heap.size := by obtain ⟨m, hm⟩ := k0; exact DataW.trod_lt m _ _ _ hm
  obtain ⟨ad0, cap0, T0, rfl, hT0, hc0, hn0, hr0⟩ := open_toks (hval 0 22 v0 rfl rfl) q0
  clear hA0 hval0
  refine (lexicBack_walk T0 ad0 cap0 W hT0 hc0 hr0 hn0).mono fun e W' ⟨he, hg⟩ => ?_
  subst he
  exact ⟨_, rfl, _, _, _, [], _, [], hW', trodAll_mk1 (shut_bool Try.underlying4 _), trodAll_mk1 (Below.trod laidOut2 (by kernel_rfl) (of_decide_eq_true (by kernel_rfl)) k0 hg.below lt0), rfl, hg.below.frame _, fun h => by cases h⟩

theorem lexicBack_holds : Rows.LexicBackSaid :=
  OpenClaim.holds_of_wide 6 Try.f6 rfl rfl rfl rfl rfl rfl rfl ⟨rfl, rfl, rfl, rfl, rfl⟩ rfl rfl rfl rfl rfl (by kernel_rfl) Try.func6 (by kernel_rfl)
    (of_decide_eq_true (by kernel_rfl)) (by unfold Func.isWrapper; first | (rw [if_pos (by decide +kernel)]; kernel_rfl) | (rw [if_neg (by decide +kernel)]; exact ⟨rfl, rfl⟩))
    (fun os started H enc _ => lexicBack_lifted os started H enc)
end Go.Proofs.Ytdlcmbbaicoicaa
