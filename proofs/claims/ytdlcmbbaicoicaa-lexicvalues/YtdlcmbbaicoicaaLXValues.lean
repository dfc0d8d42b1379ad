/- For every token the law LexicValues answers true: its value, or that it has none, is what the document says. -/
import Derived.Test.YtdlcmbbaicoicaaAwkX
import Derived.Test.YtdlcmbbaicoicaaOpenT
namespace Go.Proofs.Ytdlcmbbaicoicaa
open Go.ChangeShapes Go.WideShapes Go.ChangeAt Go.RowKit
open Lex (Tok)

set_option maxHeartbeats 2000000 in
theorem lexicValues_walk (x : Tok) (w : World) (hx : inK x) : Calls Try.prog 5 #[.agg #[.int .i64 x.k, .string x.t, .int .i64 x.p]] w fun e w' => e = .returned (.bool true) ∧ Gr w w' := by
  have H1 : Hid (∀ w', Calls Try.prog 17 #[.agg #[.int .i64 x.k, .string x.t, .int .i64 x.p]] w' fun e w2 => e = .returned (.tuple #[.int .i64 (Lex.valE x.k x.t), .bool (Lex.valB x.k x.t)]) ∧ Gr w' w2) := fun w' => value_any _ _ _ w' hx.2.1
  have H2 : Hid (∀ w', Calls Try.prog 18 #[.agg #[.int .i64 x.k, .string x.t, .int .i64 x.p]] w' fun e w2 => e = .returned (.tuple #[.int .i64 (Lex.valE x.k x.t), .bool (Lex.valB x.k x.t)]) ∧ Gr w' w2) := fun w' => refValue_any _ _ _ w' hx.2.1
  have H3 : Hid (∀ w', Calls Try.prog 12 #[] w' fun e w2 => e = .returned (.bool true) ∧ Gr w' w2) := awake_any
  generalize Lex.valE x.k x.t = ve at *
  generalize Lex.valB x.k x.t = vb at *
  clear hx
  go_enter Try.func5, Try.ntmps5
  go_wp2_with fail
  refine (H1.out _).mono ?_
  rintro e w1 ⟨rfl, hg1⟩
  obtain ⟨x0, x1, x2, _, _, _, xl⟩ := (BoxAt.new w (.int .i64 x.k) (.string x.t) (.int .i64 x.p) 39 _ rfl).gr hg1
  have g1 : Gr w w1 := (Gr.refl _).alloc.trans hg1
  clear hg1
  go_wp2_with fail
  refine (H2.out _).mono ?_
  rintro e w2 ⟨rfl, hg2⟩
  have g2 : Gr w w2 := g1.trans hg2
  clear hg2 g1 x0 x1 x2 xl
  go_wp2_with fail
  refine (H3.out _).mono ?_
  rintro e w3 ⟨rfl, hg3⟩
  go_wp2
  go_ret
  exact ⟨rfl, g2.trans hg3⟩

set_option maxRecDepth 100000 in
theorem lexicValues_lifted (os : Os) (started : os.Started) (H : Type) (enc : TypeId × Value → H) :
    ReturnsInHanded {} Try.checked os 5 .any (Rows.lexicValuesSpec.pre6 enc Try.prog Try.f5 Rows.lexicValuesRow.domain false) (Rows.lexicValuesSpec.post enc Try.prog Try.f5 false true false false) := by
  refine returnsInHanded_of_change (C := Try.checked) own2 started (by kernel_rfl) Try.func5
    (ChangeSpec.witness6 (enc := enc) (C := Try.checked) false ⟨#[], #[.agg #[.int .i64 0, .string ⟨#[]⟩, .int .i64 0]], []⟩ 8 (by kernel_rfl) (by kernel_rfl) (by kernel_rfl) (by kernel_rfl)) ?_
  intro W base args ds gs before hval0 hW hcnd _
  have hval : ∀ (j : Nat) t v, Try.f5.params[j]? = some t → args[j]? = some v → Value.okWide Try.prog W .any base t v := hval0
  have hW' := hW
  obtain ⟨p, q, hA0, hV, rfl, hfz, hnd⟩ := hW
  have hA : DataW.TrodAll enc Try.prog W 0 (fun _ => true) true Try.f5.params.toList args.toList ds p := hA0
  rw [Try.params5] at hA hval
  obtain ⟨v0, d0, rfl, rfl, q0⟩ := trodAll_one hA
  obtain ⟨rfl, rfl⟩ := trodVars_none hV
  have k0 := q0
  have lt0 : ∀ x ∈ p, x.block < W.heap.size := by obtain ⟨m, hm⟩ := k0; exact DataW.trod_lt m _ _ _ hm
  obtain ⟨x0, rfl, hT0⟩ := open_tok (hval 0 39 v0 rfl rfl) q0
  clear hA0 hval0
  refine (lexicValues_walk x0 W hT0).mono fun e W' ⟨he, hg⟩ => ?_
  subst he
  exact ⟨_, rfl, _, _, _, [], _, [], hW', trodAll_mk1 (shut_bool Try.underlying4 _), trodAll_mk1 (Below.trod laidOut2 (by kernel_rfl) (of_decide_eq_true (by kernel_rfl)) k0 hg.below lt0), rfl, hg.below.frame _, fun h => by cases h⟩

theorem lexicValues_holds : Rows.LexicValuesSaid :=
  OpenClaim.holds_of_wide 5 Try.f5 rfl rfl rfl rfl rfl rfl rfl ⟨rfl, rfl, rfl, rfl, rfl⟩ rfl rfl rfl rfl rfl (by kernel_rfl) Try.func5 (by kernel_rfl)
    (of_decide_eq_true (by kernel_rfl)) (by unfold Func.isWrapper; first | (rw [if_pos (by decide +kernel)]; kernel_rfl) | (rw [if_neg (by decide +kernel)]; exact ⟨rfl, rfl⟩))
    (fun os started H enc _ => lexicValues_lifted os started H enc)
end Go.Proofs.Ytdlcmbbaicoicaa
