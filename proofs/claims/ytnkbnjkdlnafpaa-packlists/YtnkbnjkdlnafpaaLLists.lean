/- For every string and every int the law PackLists answers true: at any place texts are taken as the document's definition takes them, or refused. -/
import Derived.Test.YtnkbnjkdlnafpaaRows
import Derived.Test.YtnkbnjkdlnafpaaAwk
import Derived.Test.YtnkbnjkdlnafpaaRefTakeL
import Derived.ProofKit
import Derived.OpenShut
import Derived.ShutString
namespace Go.Proofs.Ytnkbnjkdlnafpaa
open Go.ChangeShapes Go.WideShapes Go.ChangeAt Go.RowKit
open Go.ChangeMaps (open_string shut_string)

set_option maxHeartbeats 1000000 in
set_option maxRecDepth 100000 in
theorem packLists_walk (s : ByteArray) (p : Int) (w : World) (hs : s.size ≤ 9223372036854775807) :
    Calls Try.prog 6 #[.string s, .int .i64 p] w fun e w' => e = .returned (.bool true) ∧ Gr w w' := by
  by_cases hbig : 50000 < s.size
  · go_enter Try.func6, Try.ntmps6
    go_wp2_with fail
    refine (awake_any _).mono ?_
    rintro e w1 ⟨rfl, hg1⟩
    go_wp2
    go_ret
    exact ⟨rfl, (by repeat (first | exact Gr.refl _ | refine Gr.alloc ?_ | refine Gr.drew ?_ | refine Gr.trans ?_ (by assumption)))⟩
  · have hlen : (Pk.takeTexts s.data.toList p).1.length ≤ 9223372036854775807 := by
      have := Pk.takeTexts_len s.data.toList p
      have hsz : s.data.toList.length = s.size := by simp
      omega
    have H1 := fun w => takeTexts_any s p w (by omega)
    have H2 := fun w => refTakeTexts_any s p w (by omega)
    generalize Pk.takeTexts s.data.toList p = T at *
    obtain ⟨l, q, e⟩ := T
    simp only at *
    have H1' : Hid (∀ w : World, Calls Try.prog 25 #[.string s, .int .i64 p] w fun e' w' => ∃ ad cap, e' = .returned (.tuple #[.slice ad l.length cap, .int .i64 q, .int .i64 e]) ∧ StrsAt w' ad (l.map mkT) ∧ Gr w w') := H1
    have H2' : Hid (∀ w : World, Calls Try.prog 26 #[.string s, .int .i64 p] w fun e' w' => ∃ ad cap, e' = .returned (.tuple #[.slice ad l.length cap, .int .i64 q, .int .i64 e]) ∧ StrsAt w' ad (l.map mkT) ∧ Gr w w') := H2
    have HL : Hid (l.length = (l.map mkT).length) := by show _ = _; simp
    clear H1 H2
    go_enter Try.func6, Try.ntmps6
    go_wp2_with fail
    refine (H1'.out _).mono ?_
    rintro e' w1 ⟨ad1, c1, rfl, hst1, hg1⟩
    have HS1 : Hid (StrsAt w1 ad1 (l.map mkT)) := hst1
    clear hst1
    go_wp2_with fail
    refine (H2'.out _).mono ?_
    rintro e' w2 ⟨ad2, c2, rfl, hst2, hg2⟩
    have HS3 : Hid (∀ w' : World, Gr w2 w' → Calls Try.prog 27 #[.slice ad1 l.length c1, .slice ad2 l.length c2] w' fun e w3 => e = .returned (.bool true) ∧ Gr w' w3) := by
      intro w' g
      rw [HL.out]
      exact same_any _ _ _ _ _ _ (by rw [← HL.out]; exact hlen) ((HS1.out.gr hg2).gr g) (hst2.gr g)
    clear hst2
    go_wp2_with fail
    refine (HS3.out _ (Gr.refl _)).mono ?_
    rintro e' w3 ⟨rfl, hg3⟩
    go_wp2_with fail
    refine (awake_any _).mono ?_
    rintro e' w4 ⟨rfl, hg4⟩
    go_wp2
    go_ret
    exact ⟨by simp, (by repeat (first | exact Gr.refl _ | refine Gr.alloc ?_ | refine Gr.drew ?_ | refine Gr.trans ?_ (by assumption)))⟩

theorem lists_own : ownKnob Try.prog.godebug = none := by kernel_rfl

set_option maxRecDepth 100000 in
theorem packLists_lifted (os : Os) (started : os.Started) (H : Type) (enc : TypeId × Value → H) :
    ReturnsInHanded {} Try.checked os 6 .any (Rows.packListsSpec.pre6 enc Try.prog Try.f6 Rows.packListsRow.domain false) (Rows.packListsSpec.post enc Try.prog Try.f6 false true false false) := by
  refine returnsInHanded_of_change (C := Try.checked) lists_own started (by kernel_rfl) Try.func6
    (ChangeSpec.witness6 (enc := enc) (C := Try.checked) false ⟨#[], #[.string ByteArray.empty, .int .i64 0], []⟩ 8 (by kernel_rfl) (by kernel_rfl) (by kernel_rfl) (by kernel_rfl)) ?_
  intro W base args ds gs before hval0 hW hcnd _
  have hval : ∀ (j : Nat) t v, Try.f6.params[j]? = some t → args[j]? = some v → Value.okWide Try.prog W .any base t v := hval0
  have hW' := hW
  obtain ⟨p, q, hA0, hV, rfl, hfz, hnd⟩ := hW
  have hA : DataW.TrodAll enc Try.prog W 0 (fun _ => true) true Try.f6.params.toList args.toList ds p := hA0
  rw [Try.params6] at hA hval
  obtain ⟨v0, v1, d0, d1, p0, p1, rfl, rfl, rfl, h0, h1⟩ := trodAll_two hA
  obtain ⟨rfl, rfl⟩ := trodVars_none hV
  obtain ⟨a, rfl, rfl, rfl, wa⟩ := open_string Try.underlying9 (hval 0 9 v0 rfl rfl) h0
  obtain ⟨b, rfl, rfl, rfl, wb⟩ := open_int Try.underlying3 (hval 1 3 v1 rfl rfl) h1
  clear hA0 hval0
  refine (packLists_walk a b W wa).mono fun e W' ⟨he, hg⟩ => ?_
  subst he
  exact ⟨_, rfl, _, _, _, [], _, [], hW', trodAll_mk1 (shut_bool Try.underlying4 _), trodAll_mk2 (shut_string Try.underlying9 wa) (shut_int Try.underlying3 wb), rfl, hg.below.frame _, fun h => by cases h⟩

theorem packLists_holds : Rows.PackListsSaid :=
  OpenClaim.holds_of_wide 6 Try.f6 rfl rfl rfl rfl rfl rfl rfl ⟨rfl, rfl, rfl, rfl, rfl⟩ rfl rfl rfl rfl rfl (by kernel_rfl) Try.func6 (by kernel_rfl)
    (of_decide_eq_true (by kernel_rfl)) (by unfold Func.isWrapper; first | (rw [if_pos (by decide +kernel)]; kernel_rfl) | (rw [if_neg (by decide +kernel)]; exact ⟨rfl, rfl⟩))
    (fun os started H enc _ => packLists_lifted os started H enc)
end Go.Proofs.Ytnkbnjkdlnafpaa
