/- For every two uint64 the law PackOrder answers true: a greater number has no shorter form, each form has one to ten bytes, and forms begin with each other only where the numbers are the same. -/
import Derived.Test.YtnkbnjkdlnafpabRows
import Derived.Test.YtnkbnjkdlnafpabAwk
import Derived.Test.YtnkbnjkdlnafpabMath2
import Derived.ProofKit
import Derived.OpenShut
namespace Go.Proofs.Ytnkbnjkdlnafpab
open Go.ChangeShapes Go.WideShapes Go.ChangeAt Go.RowKit
attribute [local go_sem ↓] Go.wp_at_zero Go.wp_at_succ

theorem ext_list (s : List UInt8) (k : Nat) : ((ByteArray.mk s.toArray).extract 0 k).toList = s.take k := by
  rw [ByteArray.extract_mk, ByteArray.toList_mk]; simp

/- the law at two forms and their common length -/
set_option maxHeartbeats 1000000 in
set_option maxRecDepth 100000 in
theorem packOrder_core (a b k : Nat) (s t : List UInt8) (w : World)
    (H1 : Hid (∀ w : World, Calls Try.prog 4 #[.int .u64 a] w fun e w' => e = .returned (.string ⟨s.toArray⟩) ∧ Gr w w'))
    (H2 : Hid (∀ w : World, Calls Try.prog 4 #[.int .u64 b] w fun e w' => e = .returned (.string ⟨t.toArray⟩) ∧ Gr w w'))
    (hl1 : 1 ≤ s.length) (hl2 : s.length ≤ 10) (hks : k ≤ s.length) (hkt : k ≤ t.length)
    (hmin : min (s.length : Int) (t.length : Int) = (k : Int)) (hd0 : (decide (b < a) = false ∧ ¬ (b : Int) < (a : Int)) ∨ ((b : Int) < (a : Int) ∧ decide (s.length < t.length) = false))
    (hab : ((a : Int) == (b : Int)) = false) (hst : (((ByteArray.mk s.toArray).extract 0 k).toList == ((ByteArray.mk t.toArray).extract 0 k).toList) = false) :
    Calls Try.prog 3 #[.int .u64 a, .int .u64 b] w fun e w' => e = .returned (.bool true) ∧ Gr w w' := by
  have hd2 : decide ((s.length : Int) < 1) = false := by simp; omega
  have hd3 : decide (10 < (s.length : Int)) = false := by simp; omega
  rcases hd0 with ⟨hd0, hd1⟩ | ⟨hd1, hd0⟩
  all_goals
    go_enter Try.func3, Try.ntmps3
    go_wp2_with fail
    refine (H1.out _).mono ?_
    rintro e w1 ⟨rfl, hg1⟩
    go_wp2_with fail
    refine (H2.out _).mono ?_
    rintro e w2 ⟨rfl, hg2⟩
    go_wp2_with fail
    go_region_with (go_at_call 5; refine (awake_any _).mono ?_; rintro e w3 ⟨rfl, hg3⟩)
    all_goals go_wp2
    all_goals go_ret
    all_goals exact ⟨rfl, (by repeat (first | exact Gr.refl _ | refine Gr.alloc ?_ | refine Gr.drew ?_ | refine Gr.trans ?_ (by assumption)))⟩

/- the law at one number -/
set_option maxHeartbeats 1000000 in
set_option maxRecDepth 100000 in
theorem packOrder_same (a : Nat) (s : List UInt8) (w : World)
    (H1 : Hid (∀ w : World, Calls Try.prog 4 #[.int .u64 a] w fun e w' => e = .returned (.string ⟨s.toArray⟩) ∧ Gr w w'))
    (hl1 : 1 ≤ s.length) (hl2 : s.length ≤ 10) :
    Calls Try.prog 3 #[.int .u64 a, .int .u64 a] w fun e w' => e = .returned (.bool true) ∧ Gr w w' := by
  have hd2 : decide ((s.length : Int) < 1) = false := by simp; omega
  have hd3 : decide (10 < (s.length : Int)) = false := by simp; omega
  have hmin : min (s.length : Int) (s.length : Int) = (s.length : Int) := by omega
  go_enter Try.func3, Try.ntmps3
  go_wp2_with fail
  refine (H1.out _).mono ?_
  rintro e w1 ⟨rfl, hg1⟩
  go_wp2_with fail
  refine (H1.out _).mono ?_
  rintro e w2 ⟨rfl, hg2⟩
  go_wp2_with fail
  go_region_with (go_at_call 5; refine (awake_any _).mono ?_; rintro e w3 ⟨rfl, hg3⟩)
  all_goals go_wp2
  all_goals go_ret
  all_goals exact ⟨rfl, (by repeat (first | exact Gr.refl _ | refine Gr.alloc ?_ | refine Gr.drew ?_ | refine Gr.trans ?_ (by assumption)))⟩

theorem packOrder_walk (a b : Nat) (w : World) (ha : a < 18446744073709551616) (hb : b < 18446744073709551616) :
    Calls Try.prog 3 #[.int .u64 a, .int .u64 b] w fun e w' => e = .returned (.bool true) ∧ Gr w w' := by
  have H1 : Hid (∀ w : World, Calls Try.prog 4 #[.int .u64 a] w fun e w' => e = .returned (.string ⟨(Pk.num a).toArray⟩) ∧ Gr w w') := fun w => number_any a w (by omega)
  have H2 : Hid (∀ w : World, Calls Try.prog 4 #[.int .u64 b] w fun e w' => e = .returned (.string ⟨(Pk.num b).toArray⟩) ∧ Gr w w') := fun w => number_any b w (by omega)
  have hl1 := Pk.num_len a
  by_cases e : a = b
  · subst e
    exact packOrder_same a _ w H1 hl1.1 hl1.2
  · have hm1 : b < a → (Pk.num b).length ≤ (Pk.num a).length := fun h => Pk.num_mono b a (by omega)
    have hp : ¬ (Pk.num a).take (min (Pk.num a).length (Pk.num b).length) = (Pk.num b).take (min (Pk.num a).length (Pk.num b).length) := fun h => e (Pk.num_inj_min a b ha hb h)
    refine packOrder_core a b (min (Pk.num a).length (Pk.num b).length) _ _ w H1 H2 hl1.1 hl1.2 (by omega) (by omega) (by omega) (by simp only [decide_eq_false_iff_not]; omega) (by simp; omega) ?_
    rw [ext_list, ext_list]
    simpa using hp

theorem own : ownKnob Try.prog.godebug = none := by kernel_rfl

set_option maxRecDepth 100000 in
theorem packOrder_lifted (os : Os) (started : os.Started) (H : Type) (enc : TypeId × Value → H) :
    ReturnsInHanded {} Try.checked os 3 .any (Rows.packOrderSpec.pre6 enc Try.prog Try.f3 Rows.packOrderRow.domain false) (Rows.packOrderSpec.post enc Try.prog Try.f3 false true false false) := by
  refine returnsInHanded_of_change (C := Try.checked) own started (by kernel_rfl) Try.func3
    (ChangeSpec.witness6 (enc := enc) (C := Try.checked) false ⟨#[], #[.int .u64 0, .int .u64 0], []⟩ 8 (by kernel_rfl) (by kernel_rfl) (by kernel_rfl) (by kernel_rfl)) ?_
  intro W base args ds gs before hval0 hW hcnd _
  have hval : ∀ (j : Nat) t v, Try.f3.params[j]? = some t → args[j]? = some v → Value.okWide Try.prog W .any base t v := hval0
  have hW' := hW
  obtain ⟨p, q, hA0, hV, rfl, hfz, hnd⟩ := hW
  have hA : DataW.TrodAll enc Try.prog W 0 (fun _ => true) true Try.f3.params.toList args.toList ds p := hA0
  rw [Try.params3] at hA hval
  obtain ⟨v0, v1, d0, d1, p0, p1, rfl, rfl, rfl, h0, h1⟩ := trodAll_two hA
  obtain ⟨rfl, rfl⟩ := trodVars_none hV
  obtain ⟨a, rfl, rfl, rfl, wa⟩ := open_int Try.underlying22 (hval 0 22 v0 rfl rfl) h0
  obtain ⟨b, rfl, rfl, rfl, wb⟩ := open_int Try.underlying22 (hval 1 22 v1 rfl rfl) h1
  clear hA0 hval0
  have ba := bounds_u64 wa
  have bb := bounds_u64 wb
  obtain ⟨x, rfl⟩ := Int.eq_ofNat_of_zero_le (show 0 ≤ a by omega)
  obtain ⟨y, rfl⟩ := Int.eq_ofNat_of_zero_le (show 0 ≤ b by omega)
  refine (packOrder_walk x y W (by omega) (by omega)).mono fun e W' ⟨he, hg⟩ => ?_
  subst he
  exact ⟨_, rfl, _, _, _, [], _, [], hW', trodAll_mk1 (shut_bool Try.underlying4 _), trodAll_mk2 (shut_int Try.underlying22 wa) (shut_int Try.underlying22 wb), rfl, hg.below.frame _, fun h => by cases h⟩

theorem packOrder_holds : Rows.PackOrderSaid :=
  OpenClaim.holds_of_wide 3 Try.f3 rfl rfl rfl rfl rfl rfl rfl ⟨rfl, rfl, rfl, rfl, rfl⟩ rfl rfl rfl rfl rfl (by kernel_rfl) Try.func3 (by kernel_rfl)
    (of_decide_eq_true (by kernel_rfl)) (by unfold Func.isWrapper; first | (rw [if_pos (by decide +kernel)]; kernel_rfl) | (rw [if_neg (by decide +kernel)]; exact ⟨rfl, rfl⟩))
    (fun os started H enc _ => packOrder_lifted os started H enc)
end Go.Proofs.Ytnkbnjkdlnafpab
