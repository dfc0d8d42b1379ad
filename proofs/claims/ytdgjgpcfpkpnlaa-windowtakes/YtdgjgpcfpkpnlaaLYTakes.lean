
/- For every window and every number the law WindowTakes answers true: any window may be, or not, and takes any number, as the document says, or refuses it. -/
import Derived.Test.YtdgjgpcfpkpnlaaWnW
import Derived.Test.YtdgjgpcfpkpnlaaWnS
import Derived.Test.YtdgjgpcfpkpnlaaOpnX
namespace Go.Proofs.Ytdgjgpcfpkpnlaa
open Go.ChangeShapes Go.WideShapes Go.ChangeAt Go.RowKit
open Wn (Wd)

theorem take_len (W : Wd) (q : Int) (h : W.seen.length ≤ 1000) : (Wn.take W q).1.seen.length ≤ 9223372036854775807 := by
  unfold Wn.take
  by_cases c : Wn.may W = true ∧ 1 ≤ q ∧ q ≤ 1000000000
  · rw [if_pos c]
    by_cases f : W.low + 16 < q
    · rw [if_pos f]; simp
    · rw [if_neg f]
      by_cases t : Wn.has W q = true
      · rw [if_pos t]; show W.seen.length ≤ _; omega
      · rw [if_neg t]
        show (List.filter _ _).length ≤ _
        have h1 := List.length_filter_le (fun n => Wn.has W n || decide (n = q)) (Wn.rng (Wn.up (fun n => Wn.has W n || decide (n = q)) 17 W.low + 1) (W.low + 16))
        have h2 := Wn.len_rng (Wn.up (fun n => Wn.has W n || decide (n = q)) 17 W.low + 1) (W.low + 16)
        have h3 := (Wn.up_spec (fun n => Wn.has W n || decide (n = q)) 17 W.low).1
        omega
  · rw [if_neg c]; simp
theorem miss_len2 (W : Wd) : (Wn.miss W).length ≤ 9223372036854775807 := by
  cases hm : Wn.may W with
  | false => rw [Wn.miss_bad hm]; simp
  | true => have := Wn.miss_len hm; omega
set_option maxHeartbeats 8000000 in
set_option maxRecDepth 100000 in
theorem windowTakes_walk (V : Wd) (ad : Option Addr) (cap : Nat) (q : Int) (w : World) (h : WdAt w ad cap V) :
    Calls Try.prog 3 #[wdV V.low ad V.seen.length cap, .int .i64 q] w fun e w' => e = .returned (.bool true) ∧ Gr w w' := by
  have HA : Hid (∀ w', Calls Try.prog 6 #[] w' fun e w2 => e = .returned (.bool true) ∧ Gr w' w2) := fun w' => awake_any w'
  by_cases hbig : 1000 < V.seen.length
  · clear h
    generalize V.seen.length = n at *
    generalize V.low = low at *
    have hb : (1000 : Int) < (n : Int) := by omega
    go_enter Try.func3, Try.ntmps3
    go_wp2_with fail
    refine (HA.out _).mono ?_
    rintro e w1 ⟨rfl, hg1⟩
    have G1 : Hid (Gr w w1) := (Gr.refl w).alloc.trans hg1
    clear hg1
    go_wp2
    go_ret
    exact ⟨rfl, G1.out⟩
  · have H1 : Hid (∀ w', Gr w w' → Calls Try.prog 7 #[wdV V.low ad V.seen.length cap, .int .i64 q] w' fun e w2 => TkR w' w2 e (Wn.take V q)) := fun w' g => take_any V q ad cap w' (h.gr g)
    have H2 : Hid (∀ w', Gr w w' → Calls Try.prog 8 #[wdV V.low ad V.seen.length cap, .int .i64 q] w' fun e w2 => RkR w' w2 e (Wn.take V q)) := fun w' g => rtake_any V q ad cap w' (h.gr g)
    have H3 : Hid (∀ w', Gr w w' → Calls Try.prog 9 #[wdV V.low ad V.seen.length cap] w' fun e w2 => e = .returned (.int .i64 (mayE V)) ∧ Gr w' w2) := fun w' g => may_any V ad cap w' (h.gr g)
    have H4 : Hid (∀ w', Gr w w' → Calls Try.prog 10 #[wdV V.low ad V.seen.length cap] w' fun e w2 => e = .returned (.int .i64 (mayE V)) ∧ Gr w' w2) := fun w' g => rmay_any V ad cap w' (h.gr g)
    have H5 : Hid (∀ w', Gr w w' → Calls Try.prog 13 #[wdV V.low ad V.seen.length cap] w' fun e w2 => MsR w' w2 e (Wn.miss V)) := fun w' g => miss_any V ad cap w' (h.gr g)
    have H6 : Hid (∀ w', Gr w w' → Calls Try.prog 14 #[wdV V.low ad V.seen.length cap] w' fun e w2 => MsR w' w2 e (Wn.miss V)) := fun w' g => rmiss_any V ad cap w' (h.gr g)
    have H7 : Hid (∀ w' (T : Wd) a1 a2 c1 c2, WdAt w' a1 c1 T → WdAt w' a2 c2 T → Calls Try.prog 11 #[wdV T.low a1 T.seen.length c1, wdV T.low a2 T.seen.length c2] w' fun e w2 => e = .returned (.bool true) ∧ Gr w' w2) := fun w' T a1 a2 c1 c2 h1 h2 => rsame_any T a1 a2 c1 c2 w' h1 h2
    have HM := miss_len2 V
    have H8 : Hid (∀ w' a1 a2 c1 c2, IntsAt w' a1 (Wn.miss V) → IntsAt w' a2 (Wn.miss V) → Calls Try.prog 12 #[.slice a1 (Wn.miss V).length c1, .slice a2 (Wn.miss V).length c2] w' fun e w2 => e = .returned (.bool true) ∧ Gr w' w2) := fun w' a1 a2 c1 c2 h1 h2 => nums_any (Wn.miss V) a1 a2 c1 c2 w' HM h1 h2
    clear h HM
    generalize Wn.miss V = M at *
    generalize Wn.take V q = T at *
    generalize mayE V = me at *
    generalize V.seen.length = n at *
    generalize V.low = low at *
    obtain ⟨T, fr, er⟩ := T
    have hb : ¬ ((1000 : Int) < (n : Int)) := by omega
    have e1 : (fr == fr) = true := by simp
    have e2 : (er == er) = true := by simp
    have e3 : (me == me) = true := by simp
    go_enter Try.func3, Try.ntmps3
    go_wp2_with fail
    refine (H1.out _ (by repeat (first | exact Gr.refl _ | refine Gr.alloc ?_ | refine Gr.drew ?_ | refine Gr.trans ?_ (by assumption)))).mono ?_
    rintro e w1 ⟨ad1, cap1, rfl, hw1, _, hg1⟩
    simp only at *
    have W1 := Lib.hid hw1
    have G1 : Hid (Gr w w1) := (Gr.refl w).alloc.trans hg1
    have B1 := Lib.hid ((Bx2.new w (.int .i64 low) (.slice ad n cap) 24 w.heap.size rfl).gr hg1)
    obtain ⟨b0, b1, _, _, _⟩ := B1.out
    clear hw1 hg1
    go_wp2_with fail
    refine (H2.out _ G1.out.alloc).mono ?_
    rintro e w2 ⟨ad2, cap2, rfl, hw2, hg2⟩
    simp only at *
    have W2 := Lib.hid (hw2.gr (Gr.refl _).alloc (w' := w2.alloc (.cells #[.int .i64 T.low, .slice ad2 T.seen.length cap2] 24)))
    have V2 := Lib.hid (((W1.out.gr (Gr.refl _).alloc).gr hg2).gr (Gr.refl _).alloc (w' := w2.alloc (.cells #[.int .i64 T.low, .slice ad2 T.seen.length cap2] 24)))
    have G2 : Hid (Gr w (w2.alloc (.cells #[.int .i64 T.low, .slice ad2 T.seen.length cap2] 24))) := (G1.out.alloc.trans hg2).alloc
    have A2 := Lib.hid (((B1.out.gr (Gr.refl _).alloc).gr hg2).gr (Gr.refl _).alloc (w' := w2.alloc (.cells #[.int .i64 T.low, .slice ad2 T.seen.length cap2] 24)))
    have X2 := Lib.hid (((Bx2.new w1 (.int .i64 T.low) (.slice ad1 T.seen.length cap1) 24 w1.heap.size rfl).gr hg2).gr (Gr.refl _).alloc (w' := w2.alloc (.cells #[.int .i64 T.low, .slice ad2 T.seen.length cap2] 24)))
    have Y2 := Lib.hid (Bx2.new w2 (.int .i64 T.low) (.slice ad2 T.seen.length cap2) 24 w2.heap.size rfl)
    clear hw2 hg2 H1 H2 W1 G1 B1 b0 b1
    go_upto_region 5 with fail
    obtain ⟨a0, a1, _, _, _⟩ := A2.out
    obtain ⟨x0, x1, _, _, _⟩ := X2.out
    obtain ⟨y0, y1, _, _, _⟩ := Y2.out
    clear A2 X2 Y2
    generalize hX : w2.alloc (.cells #[.int .i64 T.low, .slice ad2 T.seen.length cap2] 24) = w3 at *
    clear hX
    go_region_held3 (fun w' => Gr w3 w' ∧ w'.cell? ⟨w.heap.size, 0, none⟩ = some (.int .i64 low) ∧ w'.cell? ⟨w.heap.size, 1, none⟩ = some (.slice ad n cap) ∧ w'.cell? ⟨w1.heap.size, 0, none⟩ = some (.int .i64 T.low) ∧ w'.cell? ⟨w1.heap.size, 1, none⟩ = some (.slice ad1 T.seen.length cap1) ∧ w'.cell? ⟨w2.heap.size, 0, none⟩ = some (.int .i64 T.low) ∧ w'.cell? ⟨w2.heap.size, 1, none⟩ = some (.slice ad2 T.seen.length cap2))
      ((go_split_ands; exact ⟨(by repeat (first | exact Gr.refl _ | refine Gr.alloc ?_ | refine Gr.drew ?_ | refine Gr.trans ?_ (by assumption))), Gr.keep (W := w3) (by repeat (first | exact Gr.refl _ | refine Gr.alloc ?_ | refine Gr.drew ?_ | refine Gr.trans ?_ (by assumption))) a0, Gr.keep (W := w3) (by repeat (first | exact Gr.refl _ | refine Gr.alloc ?_ | refine Gr.drew ?_ | refine Gr.trans ?_ (by assumption))) a1, Gr.keep (W := w3) (by repeat (first | exact Gr.refl _ | refine Gr.alloc ?_ | refine Gr.drew ?_ | refine Gr.trans ?_ (by assumption))) x0, Gr.keep (W := w3) (by repeat (first | exact Gr.refl _ | refine Gr.alloc ?_ | refine Gr.drew ?_ | refine Gr.trans ?_ (by assumption))) x1, Gr.keep (W := w3) (by repeat (first | exact Gr.refl _ | refine Gr.alloc ?_ | refine Gr.drew ?_ | refine Gr.trans ?_ (by assumption))) y0, Gr.keep (W := w3) (by repeat (first | exact Gr.refl _ | refine Gr.alloc ?_ | refine Gr.drew ?_ | refine Gr.trans ?_ (by assumption))) y1⟩))
      ((first
        | (go_at_call 9; refine (H3.out _ ?_).mono ?_; (go_split_ands; exact G2.out.trans (by repeat (first | exact Gr.refl _ | refine Gr.alloc ?_ | refine Gr.drew ?_ | refine Gr.trans ?_ (by assumption)))); rintro e wa ⟨rfl, hga⟩; go_split_ands)
        | (go_at_call 10; refine (H4.out _ ?_).mono ?_; (go_split_ands; exact G2.out.trans (by repeat (first | exact Gr.refl _ | refine Gr.alloc ?_ | refine Gr.drew ?_ | refine Gr.trans ?_ (by assumption)))); rintro e wb ⟨rfl, hgb⟩; go_split_ands)
        | (go_at_call 11; refine (H7.out _ T _ _ _ _ (V2.out.gr (w' := _) ?_) (W2.out.gr (w' := _) ?_)).mono ?_; (go_split_ands; exact (by repeat (first | exact Gr.refl _ | refine Gr.alloc ?_ | refine Gr.drew ?_ | refine Gr.trans ?_ (by assumption)))); (go_split_ands; exact (by repeat (first | exact Gr.refl _ | refine Gr.alloc ?_ | refine Gr.drew ?_ | refine Gr.trans ?_ (by assumption)))); rintro e wc ⟨rfl, hgc⟩; go_split_ands)
        | (go_at_call 13; refine (H5.out _ ?_).mono ?_; (go_split_ands; exact G2.out.trans (by repeat (first | exact Gr.refl _ | refine Gr.alloc ?_ | refine Gr.drew ?_ | refine Gr.trans ?_ (by assumption)))); rintro e wd ⟨adm1, capm1, rfl, hm1, hgd⟩; go_split_ands)
        | (go_at_call 14; refine (H6.out _ ?_).mono ?_; (go_split_ands; exact G2.out.trans (by repeat (first | exact Gr.refl _ | refine Gr.alloc ?_ | refine Gr.drew ?_ | refine Gr.trans ?_ (by assumption)))); rintro e we ⟨adm2, capm2, rfl, hm2, hge⟩; have hm1b := hm1.gr (Gr.trans (by repeat (first | exact Gr.refl _ | refine Gr.drew ?_)) hge); go_split_ands)
        | (go_at_call 12; refine (H8.out _ _ _ _ _ (hm1b.gr (w' := _) ?_) (hm2.gr (w' := _) ?_)).mono ?_; (repeat (first | exact Gr.refl _ | refine Gr.drew ?_)); (repeat (first | exact Gr.refl _ | refine Gr.drew ?_)); rintro e wf ⟨rfl, hgf⟩; go_split_ands)
        | (go_at_call 6; refine (HA.out _).mono ?_; rintro e wg ⟨rfl, hgg⟩; go_split_ands)))
    all_goals go_wp2
    all_goals go_ret
    all_goals exact ⟨rfl, G2.out.trans (by repeat (first | exact Gr.refl _ | refine Gr.alloc ?_ | refine Gr.drew ?_ | refine Gr.trans ?_ (by assumption)))⟩

set_option maxRecDepth 100000 in
theorem windowTakes_lifted (os : Os) (started : os.Started) (H : Type) (enc : TypeId × Value → H) :
    ReturnsInHanded {} Try.checked os 3 .any (Rows.windowTakesSpec.pre6 enc Try.prog Try.f3 Rows.windowTakesRow.domain false) (Rows.windowTakesSpec.post enc Try.prog Try.f3 false true false false) := by
  refine returnsInHanded_of_change (C := Try.checked) own2 started (by kernel_rfl) Try.func3
    (ChangeSpec.witness6 (enc := enc) (C := Try.checked) false ⟨#[], #[.agg #[.int .i64 0, .slice none 0 0], .int .i64 0], []⟩ 8 (by kernel_rfl) (by kernel_rfl) (by kernel_rfl) (by kernel_rfl)) ?_
  intro W base args ds gs before hval0 hW hcnd _
  have hval : ∀ (j : Nat) t v, Try.f3.params[j]? = some t → args[j]? = some v → Value.okWide Try.prog W .any base t v := hval0
  have hW' := hW
  obtain ⟨p, q, hA0, hV, rfl, hfz, hnd⟩ := hW
  have hA : DataW.TrodAll enc Try.prog W 0 (fun _ => true) true Try.f3.params.toList args.toList ds p := hA0
  rw [Try.params3] at hA hval
  obtain ⟨v0, v1, d0, d1, p0, p1, rfl, rfl, rfl, q0, q1⟩ := trodAll_two hA
  obtain ⟨rfl, rfl⟩ := trodVars_none hV
  have k0 := q0
  have lt0 : ∀ x ∈ p0, x.block < W.heap.size := by obtain ⟨m, hm⟩ := k0; exact DataW.trod_lt m _ _ _ hm
  obtain ⟨ad0, cap0, V0, rfl, hV0⟩ := open_win (hval 0 24 v0 rfl rfl) q0
  obtain ⟨a1, rfl, rfl, rfl, wa1⟩ := open_int Try.underlying3 (hval 1 3 v1 rfl rfl) q1
  have rg1 := rng_i64 wa1
  clear hA0 hval0
  refine (windowTakes_walk V0 ad0 cap0 a1 W hV0).mono fun e W' ⟨he, hg⟩ => ?_
  subst he
  exact ⟨_, rfl, _, _, _, [], _, [], hW', trodAll_mk1 (shut_bool Try.underlying4 _), trodAll_mk2 (Below.trod laidOut2 (by kernel_rfl) (of_decide_eq_true (by kernel_rfl)) k0 hg.below lt0) (shut_int Try.underlying3 wa1), rfl, hg.below.frame _, fun h => by cases h⟩

theorem windowTakes_holds : Rows.WindowTakesSaid :=
  OpenClaim.holds_of_wide 3 Try.f3 rfl rfl rfl rfl rfl rfl rfl ⟨rfl, rfl, rfl, rfl, rfl⟩ rfl rfl rfl rfl rfl (by kernel_rfl) Try.func3 (by kernel_rfl)
    (of_decide_eq_true (by kernel_rfl)) (by unfold Func.isWrapper; first | (rw [if_pos (by decide +kernel)]; kernel_rfl) | (rw [if_neg (by decide +kernel)]; exact ⟨rfl, rfl⟩))
    (fun os started H enc _ => windowTakes_lifted os started H enc)
end Go.Proofs.Ytdgjgpcfpkpnlaa
