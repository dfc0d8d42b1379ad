/- For every input the law PotChecks answers true: any pot may be, or not, and lets out, and in, as much as the document says. -/
import Derived.Test.YtjifhfnigngcjaaPotK
import Derived.Test.YtjifhfnigngcjaaPotP
import Derived.Test.YtjifhfnigngcjaaOpenP
namespace Go.Proofs.Ytjifhfnigngcjaa
open Go.ChangeShapes Go.WideShapes Go.ChangeAt Go.RowKit

set_option maxHeartbeats 4000000 in
set_option maxRecDepth 100000 in
theorem potChecks_walk (h i o : Int) (w : World) (hb : inB h i o) :
    Calls Try.prog 3 #[.agg #[.int .i64 h, .int .i64 i, .int .i64 o]] w fun e w' => e = .returned (.bool true) ∧ Gr w w' := by
  have HA : Hid (∀ w', Calls Try.prog 15 #[] w' fun e w2 => e = .returned (.bool true) ∧ Gr w' w2) := fun w' => awake_any w'
  have H1 : Hid (∀ w', Calls Try.prog 9 #[.agg #[.int .i64 h, .int .i64 i, .int .i64 o]] w' fun e w2 => e = .returned (.int .i64 (Pot.chkE h i o)) ∧ Gr w' w2) := fun w' => check_any h i o w' hb.2.2.2 hb.1.2
  have H2 : Hid (∀ w', Calls Try.prog 10 #[.agg #[.int .i64 h, .int .i64 i, .int .i64 o]] w' fun e w2 => e = .returned (.int .i64 (Pot.chkE h i o)) ∧ Gr w' w2) := fun w' => refCheck_any h i o w'
  have H3 : Hid (∀ w', Calls Try.prog 11 #[.agg #[.int .i64 h, .int .i64 i, .int .i64 o]] w' fun e w2 => e = .returned (.int .i64 (Pot.freeE h i o)) ∧ Gr w' w2) := fun w' => free_any h i o w' hb.2.2.2 hb.1.2
  have H4 : Hid (∀ w', Calls Try.prog 12 #[.agg #[.int .i64 h, .int .i64 i, .int .i64 o]] w' fun e w2 => e = .returned (.int .i64 (Pot.freeE h i o)) ∧ Gr w' w2) := fun w' => refFree_any h i o w'
  have H5 : Hid (∀ w', Calls Try.prog 13 #[.agg #[.int .i64 h, .int .i64 i, .int .i64 o]] w' fun e w2 => e = .returned (.int .i64 (Pot.roomE h i o)) ∧ Gr w' w2) := fun w' => room_any h i o w' hb.2.2.2 hb.1.2
  have H6 : Hid (∀ w', Calls Try.prog 14 #[.agg #[.int .i64 h, .int .i64 i, .int .i64 o]] w' fun e w2 => e = .returned (.int .i64 (Pot.roomE h i o)) ∧ Gr w' w2) := fun w' => refRoom_any h i o w'
  generalize Pot.chkE h i o = x at *
  generalize Pot.freeE h i o = y at *
  generalize Pot.roomE h i o = z at *
  have e1 : (x == x) = true := by simp
  have e2 : (y == y) = true := by simp
  have e3 : (z == z) = true := by simp
  clear hb
  go_enter Try.func3, Try.ntmps3
  go_wp2_with fail
  go_region_held3 (fun w' => Gr w w' ∧ w'.cell? ⟨w.heap.size, 0, none⟩ = some (.int .i64 h) ∧ w'.cell? ⟨w.heap.size, 1, none⟩ = some (.int .i64 i) ∧ w'.cell? ⟨w.heap.size, 2, none⟩ = some (.int .i64 o))
    ((go_split_ands; first | exact ⟨Gr.trans (by assumption) hgn, hgn.keep (by assumption), hgn.keep (by assumption), hgn.keep (by assumption)⟩ | exact ⟨(by repeat (first | exact Gr.refl _ | refine Gr.alloc ?_ | refine Gr.drew ?_ | refine Gr.trans ?_ (by assumption))), (by simp), (by simp), (by simp)⟩))
    ((first
      | (go_at_call 9; refine (H1.out _).mono ?_; rintro e wn ⟨rfl, hgn⟩)
      | (go_at_call 10; refine (H2.out _).mono ?_; rintro e wn ⟨rfl, hgn⟩)
      | (go_at_call 11; refine (H3.out _).mono ?_; rintro e wn ⟨rfl, hgn⟩)
      | (go_at_call 12; refine (H4.out _).mono ?_; rintro e wn ⟨rfl, hgn⟩)
      | (go_at_call 13; refine (H5.out _).mono ?_; rintro e wn ⟨rfl, hgn⟩)
      | (go_at_call 14; refine (H6.out _).mono ?_; rintro e wn ⟨rfl, hgn⟩)
      | (go_at_call 15; refine (HA.out _).mono ?_; rintro e wn ⟨rfl, hgn⟩)))
  all_goals go_wp2
  all_goals go_split_ands
  all_goals go_ret
  all_goals exact ⟨rfl, by assumption⟩

set_option maxRecDepth 100000 in
theorem potChecks_lifted (os : Os) (started : os.Started) (H : Type) (enc : TypeId × Value → H) :
    ReturnsInHanded {} Try.checked os 3 .any (Rows.potChecksSpec.pre6 enc Try.prog Try.f3 Rows.potChecksRow.domain false) (Rows.potChecksSpec.post enc Try.prog Try.f3 false true false false) := by
  refine returnsInHanded_of_change (C := Try.checked) own2 started (by kernel_rfl) Try.func3
    (ChangeSpec.witness6 (enc := enc) (C := Try.checked) false ⟨#[], #[.agg #[.int .i64 0, .int .i64 0, .int .i64 0]], []⟩ 8 (by kernel_rfl) (by kernel_rfl) (by kernel_rfl) (by kernel_rfl)) ?_
  intro W base args ds gs before hval0 hW hcnd _
  have hval : ∀ (j : Nat) t v, Try.f3.params[j]? = some t → args[j]? = some v → Value.okWide Try.prog W .any base t v := hval0
  have hW' := hW
  obtain ⟨p, q, hA0, hV, rfl, hfz, hnd⟩ := hW
  have hA : DataW.TrodAll enc Try.prog W 0 (fun _ => true) true Try.f3.params.toList args.toList ds p := hA0
  rw [Try.params3] at hA hval
  obtain ⟨v0, d0, rfl, rfl, q0⟩ := trodAll_one hA
  obtain ⟨rfl, rfl⟩ := trodVars_none hV
  have k0 := q0
  have lt0 : ∀ x ∈ p, x.block < W.heap.size := by obtain ⟨m, hm⟩ := k0; exact DataW.trod_lt m _ _ _ hm
  obtain ⟨h0, i0, o0, rfl, hb0⟩ := open_pot (hval 0 23 v0 rfl rfl) q0
  clear hA0 hval0
  refine (potChecks_walk h0 i0 o0 W hb0).mono fun e W' ⟨he, hg⟩ => ?_
  subst he
  exact ⟨_, rfl, _, _, _, [], _, [], hW', trodAll_mk1 (shut_bool Try.underlying4 _), trodAll_mk1 (Below.trod laidOut2 (by kernel_rfl) (of_decide_eq_true (by kernel_rfl)) k0 hg.below lt0), rfl, hg.below.frame _, fun h => by cases h⟩

theorem potChecks_holds : Rows.PotChecksSaid :=
  OpenClaim.holds_of_wide 3 Try.f3 rfl rfl rfl rfl rfl rfl rfl ⟨rfl, rfl, rfl, rfl, rfl⟩ rfl rfl rfl rfl rfl (by kernel_rfl) Try.func3 (by kernel_rfl)
    (of_decide_eq_true (by kernel_rfl)) (by unfold Func.isWrapper; first | (rw [if_pos (by decide +kernel)]; kernel_rfl) | (rw [if_neg (by decide +kernel)]; exact ⟨rfl, rfl⟩))
    (fun os started H enc _ => potChecks_lifted os started H enc)
end Go.Proofs.Ytjifhfnigngcjaa
