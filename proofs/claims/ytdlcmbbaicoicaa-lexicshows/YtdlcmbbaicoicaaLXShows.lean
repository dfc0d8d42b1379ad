/- For every row of tokens the law LexicShows answers true: it may be, and is written, as the document says, or refused. -/
import Derived.Test.YtdlcmbbaicoicaaAwkX
import Derived.Test.YtdlcmbbaicoicaaOpenT
import Derived.Test.YtdlcmbbaicoicaaRefC
namespace Go.Proofs.Ytdlcmbbaicoicaa
open Go.ChangeShapes Go.WideShapes Go.ChangeAt Go.RowKit
open Go.ChangeMaps (open_string shut_string)
open Lex (Tok ckE)

set_option maxHeartbeats 4000000 in
set_option maxRecDepth 100000 in
theorem lexicShows_walk (T : List Tok) (ad : Option Addr) (cap : Nat) (w : World) (hT : ToksAt w ad T) (hc : T.length ≤ cap) (hz : ∀ x ∈ T, inK x) (hmx : T.length ≤ 9223372036854775807) : Calls Try.prog 4 #[.slice ad T.length cap] w fun e w' => e = .returned (.bool true) ∧ Gr w w' := by
  have H0 : Hid (∀ w', Calls Try.prog 12 #[] w' fun e w2 => e = .returned (.bool true) ∧ Gr w' w2) := awake_any
  by_cases hb : (5000 : Int) < (T.length : Int)
  · go_enter Try.func4, Try.ntmps4
    go_wp2_with fail
    refine (H0.out _).mono ?_
    rintro e w4 ⟨rfl, hg4⟩
    go_wp2
    go_ret
    exact ⟨rfl, hg4⟩
  have hz' : ∀ x ∈ T, x.t.size ≤ 9223372036854775807 := fun x hx => (hz x hx).2.1
  have H1 : Hid (∀ w', Gr w w' → Calls Try.prog 13 #[.slice ad T.length cap] w' fun e w2 => e = .returned (.tuple #[.string (shT T), .int .i64 (ckE T)]) ∧ Gr w' w2) := fun w' g => show_any T ad cap w' (hT.gr g) hc (by omega) hz'
  have H2 : Hid (∀ w', Gr w w' → Calls Try.prog 14 #[.slice ad T.length cap] w' fun e w2 => e = .returned (.tuple #[.string (shT T), .int .i64 (ckE T)]) ∧ Gr w' w2) := fun w' g => refShow_any T ad cap w' (hT.gr g) (by omega) hz'
  have H3 : Hid (∀ w', Gr w w' → Calls Try.prog 15 #[.slice ad T.length cap] w' fun e w2 => e = .returned (.int .i64 (ckE T)) ∧ Gr w' w2) := fun w' g => check_any T ad cap w' (hT.gr g) hc (by omega) hz'
  have H4 : Hid (∀ w', Gr w w' → Calls Try.prog 16 #[.slice ad T.length cap] w' fun e w2 => e = .returned (.int .i64 (ckE T)) ∧ Gr w' w2) := fun w' g => refCheck_any T ad cap w' (hT.gr g) (by omega) hz'
  clear hT hz hz' hc
  generalize shT T = sT at *
  generalize ckE T = CK at *
  go_enter Try.func4, Try.ntmps4
  go_wp2_with fail
  refine (H1.out _ (Gr.refl _)).mono ?_
  rintro e w1 ⟨rfl, hg1⟩
  go_wp2_with fail
  refine (H2.out _ hg1).mono ?_
  rintro e w2 ⟨rfl, hg2⟩
  have G2 : Gr w w2 := hg1.trans hg2
  clear hg1 hg2
  go_wp2_with fail
  refine (H3.out _ G2).mono ?_
  rintro e w3 ⟨rfl, hg3⟩
  have G3 : Gr w w3 := G2.trans hg3
  clear G2 hg3
  go_wp2_with fail
  refine (H4.out _ G3).mono ?_
  rintro e w4 ⟨rfl, hg4⟩
  have G4 : Gr w w4 := G3.trans hg4
  clear G3 hg4
  go_wp2_with fail
  refine (H0.out _).mono ?_
  rintro e w5 ⟨rfl, hg5⟩
  go_wp2
  go_ret
  exact ⟨rfl, G4.trans hg5⟩

set_option maxRecDepth 100000 in
theorem lexicShows_lifted (os : Os) (started : os.Started) (H : Type) (enc : TypeId × Value → H) :
    ReturnsInHanded {} Try.checked os 4 .any (Rows.lexicShowsSpec.pre6 enc Try.prog Try.f4 Rows.lexicShowsRow.domain false) (Rows.lexicShowsSpec.post enc Try.prog Try.f4 false true false false) := by
  refine returnsInHanded_of_change (C := Try.checked) own2 started (by kernel_rfl) Try.func4
    (ChangeSpec.witness6 (enc := enc) (C := Try.checked) false ⟨#[], #[.slice none 0 0], []⟩ 8 (by kernel_rfl) (by kernel_rfl) (by kernel_rfl) (by kernel_rfl)) ?_
  intro W base args ds gs before hval0 hW hcnd _
  have hval : ∀ (j : Nat) t v, Try.f4.params[j]? = some t → args[j]? = some v → Value.okWide Try.prog W .any base t v := hval0
  have hW' := hW
  obtain ⟨p, q, hA0, hV, rfl, hfz, hnd⟩ := hW
  have hA : DataW.TrodAll enc Try.prog W 0 (fun _ => true) true Try.f4.params.toList args.toList ds p := hA0
  rw [Try.params4] at hA hval
  obtain ⟨v0, d0, rfl, rfl, q0⟩ := trodAll_one hA
  obtain ⟨rfl, rfl⟩ := trodVars_none hV
  have k0 := q0
  have lt0 : ∀ x ∈ p, x.block < W.heap.size := by obtain ⟨m, hm⟩ := k0; exact DataW.trod_lt m _ _ _ hm
  obtain ⟨ad0, cap0, T0, rfl, hT0, hc0, hn0, hr0⟩ := open_toks (hval 0 22 v0 rfl rfl) q0
  clear hA0 hval0
  refine (lexicShows_walk T0 ad0 cap0 W hT0 hc0 hr0 hn0).mono fun e W' ⟨he, hg⟩ => ?_
  subst he
  exact ⟨_, rfl, _, _, _, [], _, [], hW', trodAll_mk1 (shut_bool Try.underlying4 _), trodAll_mk1 (Below.trod laidOut2 (by kernel_rfl) (of_decide_eq_true (by kernel_rfl)) k0 hg.below lt0), rfl, hg.below.frame _, fun h => by cases h⟩

theorem lexicShows_holds : Rows.LexicShowsSaid :=
  OpenClaim.holds_of_wide 4 Try.f4 rfl rfl rfl rfl rfl rfl rfl ⟨rfl, rfl, rfl, rfl, rfl⟩ rfl rfl rfl rfl rfl (by kernel_rfl) Try.func4 (by kernel_rfl)
    (of_decide_eq_true (by kernel_rfl)) (by unfold Func.isWrapper; first | (rw [if_pos (by decide +kernel)]; kernel_rfl) | (rw [if_neg (by decide +kernel)]; exact ⟨rfl, rfl⟩))
    (fun os started H enc _ => lexicShows_lifted os started H enc)
end Go.Proofs.Ytdlcmbbaicoicaa
