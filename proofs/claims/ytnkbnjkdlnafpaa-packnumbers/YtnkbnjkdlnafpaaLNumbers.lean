/- For every uint64 and every int64 the law PackNumbers answers true: both are laid by package pack as the document's definition lays them. -/
import Derived.Test.YtnkbnjkdlnafpaaRows
import Derived.Test.YtnkbnjkdlnafpaaAwk
import Derived.Test.YtnkbnjkdlnafpaaSgn
import Derived.ProofKit
import Derived.OpenShut
namespace Go.Proofs.Ytnkbnjkdlnafpaa
open Go.ChangeShapes Go.WideShapes Go.ChangeAt Go.RowKit

set_option maxHeartbeats 1000000 in
set_option maxRecDepth 100000 in
theorem packNumbers_walk (n m : Int) (w : World) (h0 : 0 ≤ n) (h1 : n < 18446744073709551616) (h2 : -9223372036854775808 ≤ m) (h3 : m < 9223372036854775808) :
    Calls Try.prog 3 #[.int .u64 n, .int .i64 m] w fun e w' => e = .returned (.bool true) ∧ Gr w w' := by
  obtain ⟨k, rfl⟩ := Int.eq_ofNat_of_zero_le h0
  have H1 : Hid (∀ w : World, Calls Try.prog 9 #[.int .u64 k] w fun e w' => e = .returned (.string ⟨(Pk.num k).toArray⟩) ∧ Gr w w') := fun w => number_any k w (by omega)
  have H2 : Hid (∀ w : World, Calls Try.prog 10 #[.int .u64 k] w fun e w' => e = .returned (.string ⟨(Pk.num k).toArray⟩) ∧ Gr w w') := fun w => refNumber_any 9 k w (by omega) (by omega) (by omega)
  have H3 : Hid (∀ w : World, Calls Try.prog 11 #[.int .i64 m] w fun e w' => e = .returned (.string ⟨(Pk.num (Pk.sgn m)).toArray⟩) ∧ Gr w w') := fun w => signed_any m w h2 h3
  have H4 : Hid (∀ w : World, Calls Try.prog 12 #[.int .i64 m] w fun e w' => e = .returned (.string ⟨(Pk.num (Pk.sgn m)).toArray⟩) ∧ Gr w w') := fun w => refSigned_any m w h2 h3
  generalize Pk.num k = s at *
  generalize Pk.num (Pk.sgn m) = t at *
  go_enter Try.func3, Try.ntmps3
  go_wp2_with fail
  refine (H1.out _).mono ?_
  rintro e w1 ⟨rfl, hg1⟩
  go_wp2_with fail
  refine (H2.out _).mono ?_
  rintro e w2 ⟨rfl, hg2⟩
  go_wp2_with fail
  refine (H3.out _).mono ?_
  rintro e w3 ⟨rfl, hg3⟩
  go_wp2_with fail
  refine (H4.out _).mono ?_
  rintro e w4 ⟨rfl, hg4⟩
  go_wp2_with fail
  refine (awake_any _).mono ?_
  rintro e w5 ⟨rfl, hg5⟩
  go_wp2
  go_ret
  exact ⟨by simp, (by repeat (first | exact Gr.refl _ | refine Gr.alloc ?_ | refine Gr.drew ?_ | refine Gr.trans ?_ (by assumption)))⟩

theorem numbers_own : ownKnob Try.prog.godebug = none := by kernel_rfl

set_option maxRecDepth 100000 in
theorem packNumbers_lifted (os : Os) (started : os.Started) (H : Type) (enc : TypeId × Value → H) :
    ReturnsInHanded {} Try.checked os 3 .any (Rows.packNumbersSpec.pre6 enc Try.prog Try.f3 Rows.packNumbersRow.domain false) (Rows.packNumbersSpec.post enc Try.prog Try.f3 false true false false) := by
  refine returnsInHanded_of_change (C := Try.checked) numbers_own started (by kernel_rfl) Try.func3
    (ChangeSpec.witness6 (enc := enc) (C := Try.checked) false ⟨#[], #[.int .u64 0, .int .i64 0], []⟩ 8 (by kernel_rfl) (by kernel_rfl) (by kernel_rfl) (by kernel_rfl)) ?_
  intro W base args ds gs before hval0 hW hcnd _
  have hval : ∀ (j : Nat) t v, Try.f3.params[j]? = some t → args[j]? = some v → Value.okWide Try.prog W .any base t v := hval0
  have hW' := hW
  obtain ⟨p, q, hA0, hV, rfl, hfz, hnd⟩ := hW
  have hA : DataW.TrodAll enc Try.prog W 0 (fun _ => true) true Try.f3.params.toList args.toList ds p := hA0
  rw [Try.params3] at hA hval
  obtain ⟨v0, v1, d0, d1, p0, p1, rfl, rfl, rfl, h0, h1⟩ := trodAll_two hA
  obtain ⟨rfl, rfl⟩ := trodVars_none hV
  obtain ⟨a, rfl, rfl, rfl, wa⟩ := open_int Try.underlying22 (hval 0 22 v0 rfl rfl) h0
  obtain ⟨b, rfl, rfl, rfl, wb⟩ := open_int Try.underlying2 (hval 1 2 v1 rfl rfl) h1
  clear hA0 hval0
  have ba := bounds_u64 wa
  have bb := bounds_i64 wb
  refine (packNumbers_walk a b W (by omega) (by omega) (by omega) (by omega)).mono fun e W' ⟨he, hg⟩ => ?_
  subst he
  exact ⟨_, rfl, _, _, _, [], _, [], hW', trodAll_mk1 (shut_bool Try.underlying4 _), trodAll_mk2 (shut_int Try.underlying22 wa) (shut_int Try.underlying2 wb), rfl, hg.below.frame _, fun h => by cases h⟩

theorem packNumbers_holds : Rows.PackNumbersSaid :=
  OpenClaim.holds_of_wide 3 Try.f3 rfl rfl rfl rfl rfl rfl rfl ⟨rfl, rfl, rfl, rfl, rfl⟩ rfl rfl rfl rfl rfl (by kernel_rfl) Try.func3 (by kernel_rfl)
    (of_decide_eq_true (by kernel_rfl)) (by unfold Func.isWrapper; first | (rw [if_pos (by decide +kernel)]; kernel_rfl) | (rw [if_neg (by decide +kernel)]; exact ⟨rfl, rfl⟩))
    (fun os started H enc _ => packNumbers_lifted os started H enc)
end Go.Proofs.Ytnkbnjkdlnafpaa
