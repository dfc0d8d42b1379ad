/- For every input the law ActChecks answers true: any text is a name, any activity and any account may be, or not, as the document says; each activity changes what it says. -/
import Derived.Test.YtbiagpjndbknaaaActK
import Derived.Test.YtbiagpjndbknaaaOpenA
import Derived.Deep.RegionHeld3
namespace Go.Proofs.Ytbiagpjndbknaaa
open Go.ChangeShapes Go.WideShapes Go.ChangeAt Go.RowKit
open Go.ChangeMaps (open_string shut_string)

theorem hold10 {W w' : World} (h : Gr W w') {q0 q1 q2 q3 q4 q5 q6 q7 q8 q9 : Addr} {v0 v1 v2 v3 v4 v5 v6 v7 v8 v9 : Value} (h0 : W.cell? q0 = some v0) (h1 : W.cell? q1 = some v1) (h2 : W.cell? q2 = some v2) (h3 : W.cell? q3 = some v3) (h4 : W.cell? q4 = some v4) (h5 : W.cell? q5 = some v5) (h6 : W.cell? q6 = some v6) (h7 : W.cell? q7 = some v7) (h8 : W.cell? q8 = some v8) (h9 : W.cell? q9 = some v9) :
    Gr W w' ∧ w'.cell? q0 = some v0 ∧ w'.cell? q1 = some v1 ∧ w'.cell? q2 = some v2 ∧ w'.cell? q3 = some v3 ∧ w'.cell? q4 = some v4 ∧ w'.cell? q5 = some v5 ∧ w'.cell? q6 = some v6 ∧ w'.cell? q7 = some v7 ∧ w'.cell? q8 = some v8 ∧ w'.cell? q9 = some v9 :=
  ⟨h, h.keep h0, h.keep h1, h.keep h2, h.keep h3, h.keep h4, h.keep h5, h.keep h6, h.keep h7, h.keep h8, h.keep h9⟩

set_option maxHeartbeats 4000000 in
set_option maxRecDepth 100000 in
theorem actChecks_walk (r : ByteArray) (k n : Int) (t s : ByteArray) (a b c x y z : Int) (w : World) (hr : r.size ≤ 9223372036854775807) (hT : inT k t n) (hX : inX s a b c x y z) :
    Calls Try.prog 3 #[.string r, .agg #[.int .i64 k, .string t, .int .i64 n], .agg #[.string s, .int .i64 a, .int .i64 b, .int .i64 c, .int .i64 x, .int .i64 y, .int .i64 z]] w fun e w' => e = .returned (.bool true) ∧ Gr w w' := by
  have HA : Hid (∀ w', Calls Try.prog 15 #[] w' fun e w2 => e = .returned (.bool true) ∧ Gr w' w2) := fun w' => awake_any w'
  have H1 : Hid (∀ w', Calls Try.prog 9 #[.string r] w' fun e w2 => e = .returned (.bool (Act.nameB r)) ∧ w2 = w') := fun w' => name_any r w' hr
  have H2 : Hid (∀ w', Calls Try.prog 10 #[.string r] w' fun e w2 => e = .returned (.bool (Act.nameB r)) ∧ w2 = w') := fun w' => refName_any r w' hr
  have H3 : Hid (∀ w', Calls Try.prog 11 #[.agg #[.int .i64 k, .string t, .int .i64 n]] w' fun e w2 => e = .returned (.int .i64 (Act.chkE k t n)) ∧ Gr w' w2) := fun w' => actCheck_any k n t w' hT.2.1
  have H4 : Hid (∀ w', Calls Try.prog 12 #[.agg #[.int .i64 k, .string t, .int .i64 n]] w' fun e w2 => e = .returned (.int .i64 (Act.chkE k t n)) ∧ Gr w' w2) := fun w' => refActCheck_any k n t w' hT.2.1
  have H5 : Hid (∀ w', Calls Try.prog 13 #[.agg #[.string s, .int .i64 a, .int .i64 b, .int .i64 c, .int .i64 x, .int .i64 y, .int .i64 z]] w' fun e w2 => e = .returned (.int .i64 (Act.mayE s a b c x y z)) ∧ Gr w' w2) := fun w' => may_any s a b c x y z w' hX.1 hX.2.1.1.2 hX.2.1.2.2.2 hX.2.2.1.2 hX.2.2.2.2.2
  have H6 : Hid (∀ w', Calls Try.prog 14 #[.agg #[.string s, .int .i64 a, .int .i64 b, .int .i64 c, .int .i64 x, .int .i64 y, .int .i64 z]] w' fun e w2 => e = .returned (.int .i64 (Act.mayE s a b c x y z)) ∧ Gr w' w2) := fun w' => refMay_any s a b c x y z w' hX.1
  have H7 : Hid (∀ w', Calls Try.prog 7 #[.agg #[.int .i64 k, .string t, .int .i64 n]] w' fun e w2 => e = .returned (.tuple #[.int .i64 (Act.dF k t n), .int .i64 (Act.dK k t n)]) ∧ Gr w' w2) := fun w' => delta_any k n t w' hT.2.1
  have H8 : Hid (∀ w', Calls Try.prog 8 #[.agg #[.int .i64 k, .string t, .int .i64 n]] w' fun e w2 => e = .returned (.tuple #[.int .i64 (Act.dF k t n), .int .i64 (Act.dK k t n)]) ∧ Gr w' w2) := fun w' => refDelta_any k n t w' hT.2.1
  generalize Act.nameB r = p at *
  generalize Act.chkE k t n = q at *
  generalize Act.mayE s a b c x y z = m at *
  generalize Act.dF k t n = d at *
  generalize Act.dK k t n = g at *
  have e0 : (p == p) = true := by simp
  have e1 : (q == q) = true := by simp
  have e2 : (m == m) = true := by simp
  have e3 : (d == d) = true := by simp
  have e4 : (g == g) = true := by simp
  clear hr hT hX
  go_enter Try.func3, Try.ntmps3
  go_wp2_with fail
  refine (H7.out _).mono ?_
  rintro e w1 ⟨rfl, hg1⟩
  have B := ((BoxAt.new w _ _ _ _ w.heap.size rfl).gr (Gr.refl _).alloc).gr hg1
  have X := (AccAt.new _ _ _ _ _ _ _ _ _ (w.heap.size + 1) (by simp)).gr hg1
  have G : Gr w w1 := (by repeat (first | exact Gr.refl _ | refine Gr.alloc ?_ | refine Gr.drew ?_ | refine Gr.trans ?_ (by assumption)))
  clear hg1
  obtain ⟨b0, b1, b2, _, _, _, bl⟩ := id B
  go_wp2_with fail
  refine (H8.out _).mono ?_
  rintro e w2 ⟨rfl, hg2⟩
  have B := B.gr hg2
  have X := X.gr hg2
  have HG : Hid (Gr w w2) := G.trans hg2
  clear b0 b1 b2 bl hg2 G
  obtain ⟨b0, b1, b2, _, _, _, bl⟩ := B
  obtain ⟨x0, x1, x2, x3, x4, x5, x6⟩ := X.cells
  have xl := X.lt
  clear X
  go_wp2_with fail
  go_region_held3 (fun w' => Gr w2 w' ∧ w'.cell? ⟨w.heap.size, 0, none⟩ = some (.int .i64 k) ∧ w'.cell? ⟨w.heap.size, 1, none⟩ = some (.string t) ∧ w'.cell? ⟨w.heap.size, 2, none⟩ = some (.int .i64 n) ∧ w'.cell? ⟨w.heap.size + 1, 0, none⟩ = some (.string s) ∧ w'.cell? ⟨w.heap.size + 1, 1, none⟩ = some (.int .i64 a) ∧ w'.cell? ⟨w.heap.size + 1, 2, none⟩ = some (.int .i64 b) ∧ w'.cell? ⟨w.heap.size + 1, 3, none⟩ = some (.int .i64 c) ∧ w'.cell? ⟨w.heap.size + 1, 4, none⟩ = some (.int .i64 x) ∧ w'.cell? ⟨w.heap.size + 1, 5, none⟩ = some (.int .i64 y) ∧ w'.cell? ⟨w.heap.size + 1, 6, none⟩ = some (.int .i64 z))
    ((go_split_ands; exact hold10 (by (repeat' (first | with_reducible exact Gr.refl _ | with_reducible assumption | with_reducible refine Gr.drew ?_ | with_reducible refine Gr.trans ?_ hgn))) b0 b1 b2 x0 x1 x2 x3 x4 x5 x6))
    ((first
      | (go_at_call 9; refine (H1.out _).mono ?_; rintro e wn ⟨rfl, hwn⟩; obtain rfl := hwn.symm)
      | (go_at_call 10; refine (H2.out _).mono ?_; rintro e wn ⟨rfl, hwn⟩; obtain rfl := hwn.symm)
      | (go_at_call 11; refine (H3.out _).mono ?_; rintro e wn ⟨rfl, hgn⟩)
      | (go_at_call 12; refine (H4.out _).mono ?_; rintro e wn ⟨rfl, hgn⟩)
      | (go_at_call 13; refine (H5.out _).mono ?_; rintro e wn ⟨rfl, hgn⟩)
      | (go_at_call 14; refine (H6.out _).mono ?_; rintro e wn ⟨rfl, hgn⟩)
      | (go_at_call 15; refine (HA.out _).mono ?_; rintro e wn ⟨rfl, hgn⟩)))
  all_goals go_wp2
  all_goals go_split_ands
  all_goals go_ret
  all_goals exact ⟨rfl, HG.out.trans (by assumption)⟩

set_option maxRecDepth 100000 in
theorem actChecks_lifted (os : Os) (started : os.Started) (H : Type) (enc : TypeId × Value → H) :
    ReturnsInHanded {} Try.checked os 3 .any (Rows.actChecksSpec.pre6 enc Try.prog Try.f3 Rows.actChecksRow.domain false) (Rows.actChecksSpec.post enc Try.prog Try.f3 false true false false) := by
  refine returnsInHanded_of_change (C := Try.checked) own2 started (by kernel_rfl) Try.func3
    (ChangeSpec.witness6 (enc := enc) (C := Try.checked) false ⟨#[], #[.string ⟨#[]⟩, .agg #[.int .i64 0, .string ⟨#[]⟩, .int .i64 0], .agg #[.string ⟨#[]⟩, .int .i64 0, .int .i64 0, .int .i64 0, .int .i64 0, .int .i64 0, .int .i64 0]], []⟩ 8 (by kernel_rfl) (by kernel_rfl) (by kernel_rfl) (by kernel_rfl)) ?_
  intro W base args ds gs before hval0 hW hcnd _
  have hval : ∀ (j : Nat) t v, Try.f3.params[j]? = some t → args[j]? = some v → Value.okWide Try.prog W .any base t v := hval0
  have hW' := hW
  obtain ⟨p, q, hA0, hV, rfl, hfz, hnd⟩ := hW
  have hA : DataW.TrodAll enc Try.prog W 0 (fun _ => true) true Try.f3.params.toList args.toList ds p := hA0
  rw [Try.params3] at hA hval
  obtain ⟨v0, v1, v2, d0, d1, d2, p0, p1, p2, rfl, rfl, rfl, q0, q1, q2⟩ := trodAll_three hA
  obtain ⟨rfl, rfl⟩ := trodVars_none hV
  have k1 := q1
  have lt1 : ∀ x ∈ p1, x.block < W.heap.size := by obtain ⟨m, hm⟩ := k1; exact DataW.trod_lt m _ _ _ hm
  have k2 := q2
  have lt2 : ∀ x ∈ p2, x.block < W.heap.size := by obtain ⟨m, hm⟩ := k2; exact DataW.trod_lt m _ _ _ hm
  obtain ⟨a0, rfl, rfl, rfl, wa0⟩ := open_string Try.underlying9 (hval 0 9 v0 rfl rfl) q0
  obtain ⟨kd1, t1, n1, rfl, hT1⟩ := open_act (hval 1 23 v1 rfl rfl) q1
  obtain ⟨s2, a2, b2, c2, x2, y2, z2, rfl, hX2⟩ := open_acc (hval 2 27 v2 rfl rfl) q2
  clear hA0 hval0
  refine (actChecks_walk a0 kd1 n1 t1 s2 a2 b2 c2 x2 y2 z2 W (len_max wa0) hT1 hX2).mono fun e W' ⟨he, hg⟩ => ?_
  subst he
  exact ⟨_, rfl, _, _, _, [], _, [], hW', trodAll_mk1 (shut_bool Try.underlying4 _), trodAll_mk3 (shut_string Try.underlying9 wa0) (Below.trod laidOut2 (by kernel_rfl) (of_decide_eq_true (by kernel_rfl)) k1 hg.below lt1) (Below.trod laidOut2 (by kernel_rfl) (of_decide_eq_true (by kernel_rfl)) k2 hg.below lt2), rfl, hg.below.frame _, fun h => by cases h⟩

theorem actChecks_holds : Rows.ActChecksSaid :=
  OpenClaim.holds_of_wide 3 Try.f3 rfl rfl rfl rfl rfl rfl rfl ⟨rfl, rfl, rfl, rfl, rfl⟩ rfl rfl rfl rfl rfl (by kernel_rfl) Try.func3 (by kernel_rfl)
    (of_decide_eq_true (by kernel_rfl)) (by unfold Func.isWrapper; first | (rw [if_pos (by decide +kernel)]; kernel_rfl) | (rw [if_neg (by decide +kernel)]; exact ⟨rfl, rfl⟩))
    (fun os started H enc _ => actChecks_lifted os started H enc)
end Go.Proofs.Ytbiagpjndbknaaa
