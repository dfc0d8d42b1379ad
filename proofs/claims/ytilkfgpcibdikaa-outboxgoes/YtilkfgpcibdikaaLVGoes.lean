
/- For all items, times and numbers the law OutboxGoes answers true: the document's are answered, are due, and are numbered anew. -/
import Derived.Test.YtilkfgpcibdikaaOdA
import Derived.Test.YtilkfgpcibdikaaOpenV
import Derived.Test.YtilkfgpcibdikaaOcD
import Derived.Test.YtilkfgpcibdikaaOcF
namespace Go.Proofs.Ytilkfgpcibdikaa
open Go.ChangeShapes Go.WideShapes Go.ChangeAt Go.RowKit

/- a row that was answered, and is kept -/
structure Row (w : World) (a : Option Addr) (E : List Mi) (l : List (Ox.It Nx)) : Prop where
  it : ItsAt w a E
  e : its E = l
  n : E.length ≤ 9223372036854775807
theorem Row.gr {w w' : World} {a : Option Addr} {E : List Mi} {l : List (Ox.It Nx)} (h : Row w a E l) (g : Gr w w') : Row w' a E l := ⟨h.it.gr g, h.e, h.n⟩
theorem Bxs.row {w : World} {base : Nat} {a : Option Addr} {c : Nat} {E : List Mi} (h : Bxs w base (.slice a E.length c) E) : Row w a E (its E) := by
  obtain ⟨_, _, e, h1, h2, hit, _⟩ := h.at
  cases e
  exact ⟨hit, rfl, by omega⟩
set_option maxHeartbeats 16000000 in
set_option maxRecDepth 100000 in
theorem outboxGoes_walk (D : List Mi) (ad : Option Addr) (cap : Nat) (now low : Int) (w : World) (hD : ItsAt w ad D) (hc : D.length ≤ cap) (hn : D.length ≤ 9223372036854775807) :
    Calls Try.prog 4 #[.slice ad D.length cap, .int .i64 now, .int .i64 low] w fun e w' => e = .returned (.bool true) ∧ Gr w w' := by
  have HA : Hid (∀ w', Calls Try.prog 8 #[] w' fun e w2 => AwR w' e w2) := fun w' => awake_any w'
  have HF : Hid (∀ w', Gr w w' → Calls Try.prog 7 #[.slice ad D.length cap, .slice none 0 0] w' fun e w2 => FewR w' e w2) := fun w' g => few_any D [] ad cap none 0 w' (hD.gr g).row RowAt.nil
  have H1 : Hid (∀ w', Gr w w' → Calls Try.prog 16 #[.slice ad D.length cap, .int .i64 now] w' fun e w2 => DuR (Ox.dueL okN (its D) now) (Ox.dueD okN (its D) now) w' e w2) := fun w' g => due_any D now ad cap w' (hD.gr g) hc hn
  have H2 : Hid (∀ w', Gr w w' → Calls Try.prog 17 #[.slice ad D.length cap, .int .i64 now] w' fun e w2 => DuR (Ox.dueL okN (its D) now) (Ox.dueD okN (its D) now) w' e w2) := fun w' g => rDue_any D now ad cap w' (hD.gr g) hc hn
  have H3 : Hid (∀ w', Gr w w' → Calls Try.prog 18 #[.slice ad D.length cap, .int .i64 low] w' fun e w2 => BxR (Ox.ans okN (its D) low) w' e w2) := fun w' g => answered_any D low ad cap w' (hD.gr g) hc hn
  have H4 : Hid (∀ w', Gr w w' → Calls Try.prog 19 #[.slice ad D.length cap, .int .i64 low] w' fun e w2 => BxR (Ox.ans okN (its D) low) w' e w2) := fun w' g => rAnswered_any D low ad cap w' (hD.gr g) hc hn
  have H5 : Hid (∀ w', Gr w w' → Calls Try.prog 20 #[.slice ad D.length cap, .int .i64 now] w' fun e w2 => BxR (Ox.anew okN (its D) now) w' e w2) := fun w' g => anew_any D now ad cap w' (hD.gr g) hc hn
  have H6 : Hid (∀ w', Gr w w' → Calls Try.prog 21 #[.slice ad D.length cap, .int .i64 now] w' fun e w2 => BxR (Ox.anew okN (its D) now) w' e w2) := fun w' g => rAnew_any D now ad cap w' (hD.gr g) hc hn
  have HS : Hid (∀ a c E a2 c2 E2 l w', Row w' a E l → Row w' a2 E2 l → Calls Try.prog 15 #[.slice a E.length c, .slice a2 E2.length c2] w' fun e w2 => e = .returned (.bool true) ∧ Gr w' w2) := fun a c E a2 c2 E2 l w' h1 h2 => rSame_yes E E2 a c a2 c2 w' h1.it h2.it h1.n (by rw [h1.e, h2.e])
  generalize Ox.dueL okN (its D) now = l1 at *
  generalize Ox.dueD okN (its D) now = l2 at *
  generalize Ox.ans okN (its D) low = l3 at *
  generalize Ox.anew okN (its D) now = l4 at *
  clear hD
  unfold DuR at H1 H2
  unfold BxR at H3 H4 H5 H6
  go_enter Try.func4, Try.ntmps4
  go_wp2_with fail
  refine (HF.out _ ?_).mono ?_
  · exact (by repeat (first | exact Gr.refl _ | refine Gr.alloc ?_ | refine Gr.drew ?_ | refine Gr.trans ?_ (by assumption)))
  rintro e1 w1 ⟨b, rfl, hg1⟩
  have HG1 : Hid (Gr w w1) := (by repeat (first | exact Gr.refl _ | refine Gr.alloc ?_ | refine Gr.drew ?_ | refine Gr.trans ?_ (by assumption)))
  clear hg1 HF
  cases b with
  | false =>
    go_wp2_with fail
    refine (HA.out _).mono ?_
    rintro e2 w2 ⟨rfl, hg2⟩
    go_wp2
    go_ret
    exact ⟨rfl, HG1.out.trans hg2⟩
  | true =>
    go_wp2_with fail
    refine (H1.out _ HG1.out).mono ?_
    rintro e2 w2 ⟨a2, c2, E2, b2, d2, F2, rfl, hb2, hf2, rfl, rfl, hg2⟩
    have RA := Lib.hid hb2.row
    have RB := Lib.hid hf2.row
    have HG2 := Lib.hid (HG1.out.trans hg2)
    clear hb2 hf2 hg2 H1 HG1
    go_wp2_with fail
    refine (H2.out _ HG2.out).mono ?_
    rintro e3 w3 ⟨a3, c3, E3, b3, d3, F3, rfl, hb3, hf3, he3, hf3e, hg3⟩
    have RA3 := Lib.hid (RA.out.gr hg3)
    have RB3 := Lib.hid (RB.out.gr hg3)
    have RC3 : Hid (Row w3 a3 E3 (its E2)) := ⟨hb3.row.it, he3, hb3.row.n⟩
    have RD3 : Hid (Row w3 b3 F3 (its F2)) := ⟨hf3.row.it, hf3e, hf3.row.n⟩
    have HG3 := Lib.hid (HG2.out.trans hg3)
    clear hb3 hf3 he3 hf3e hg3 H2 HG2 RA RB
    go_wp2_with fail
    refine (H3.out _ HG3.out).mono ?_
    rintro e4 w4 ⟨a4, c4, E4, rfl, hb4, he4, hg4⟩
    have RA4 := Lib.hid (RA3.out.gr hg4)
    have RB4 := Lib.hid (RB3.out.gr hg4)
    have RC4 := Lib.hid (RC3.out.gr hg4)
    have RD4 := Lib.hid (RD3.out.gr hg4)
    have RE4 : Hid (Row w4 a4 E4 l3) := ⟨hb4.row.it, he4, hb4.row.n⟩
    have HG4 := Lib.hid (HG3.out.trans hg4)
    clear hb4 he4 hg4 H3 HG3 RA3 RB3 RC3 RD3
    go_wp2_with fail
    refine (H4.out _ HG4.out).mono ?_
    rintro e5 w5 ⟨a5, c5, E5, rfl, hb5, he5, hg5⟩
    have RA5 := Lib.hid (RA4.out.gr hg5)
    have RB5 := Lib.hid (RB4.out.gr hg5)
    have RC5 := Lib.hid (RC4.out.gr hg5)
    have RD5 := Lib.hid (RD4.out.gr hg5)
    have RE5 := Lib.hid (RE4.out.gr hg5)
    have RF5 : Hid (Row w5 a5 E5 l3) := ⟨hb5.row.it, he5, hb5.row.n⟩
    have HG5 := Lib.hid (HG4.out.trans hg5)
    clear hb5 he5 hg5 H4 HG4 RA4 RB4 RC4 RD4 RE4
    go_wp2_with fail
    refine (HS.out _ _ _ _ _ _ _ _ RE5.out RF5.out).mono ?_
    rintro e6 w6 ⟨rfl, hg6⟩
    have RA6 := Lib.hid (RA5.out.gr hg6)
    have RB6 := Lib.hid (RB5.out.gr hg6)
    have RC6 := Lib.hid (RC5.out.gr hg6)
    have RD6 := Lib.hid (RD5.out.gr hg6)
    have HG6 := Lib.hid (HG5.out.trans hg6)
    clear hg6 HG5 RA5 RB5 RC5 RD5 RE5 RF5
    go_wp2_with fail
    refine (HS.out _ _ _ _ _ _ _ _ RA6.out RC6.out).mono ?_
    rintro e7 w7 ⟨rfl, hg7⟩
    have RB7 := Lib.hid (RB6.out.gr hg7)
    have RD7 := Lib.hid (RD6.out.gr hg7)
    have HG7 := Lib.hid (HG6.out.trans hg7)
    clear hg7 HG6 RA6 RB6 RC6 RD6
    go_wp2_with fail
    refine (HS.out _ _ _ _ _ _ _ _ RB7.out RD7.out).mono ?_
    rintro e8 w8 ⟨rfl, hg8⟩
    have HG8 := Lib.hid (HG7.out.trans hg8)
    clear hg8 HG7 RB7 RD7
    go_wp2_with fail
    refine (H5.out _ HG8.out).mono ?_
    rintro e9 w9 ⟨a9, c9, E9, rfl, hb9, he9, hg9⟩
    have RE9 : Hid (Row w9 a9 E9 l4) := ⟨hb9.row.it, he9, hb9.row.n⟩
    have HG9 := Lib.hid (HG8.out.trans hg9)
    clear hb9 he9 hg9 H5 HG8
    go_wp2_with fail
    refine (H6.out _ HG9.out).mono ?_
    rintro e10 w10 ⟨a10, c10, E10, rfl, hb10, he10, hg10⟩
    have RE10 := Lib.hid (RE9.out.gr hg10)
    have RF10 : Hid (Row w10 a10 E10 l4) := ⟨hb10.row.it, he10, hb10.row.n⟩
    have HG10 := Lib.hid (HG9.out.trans hg10)
    clear hb10 he10 hg10 H6 HG9 RE9
    go_wp2_with fail
    refine (HS.out _ _ _ _ _ _ _ _ RE10.out RF10.out).mono ?_
    rintro e11 w11 ⟨rfl, hg11⟩
    have HG11 := Lib.hid (HG10.out.trans hg11)
    clear hg11 HG10 RE10 RF10
    go_wp2_with fail
    refine (HA.out _).mono ?_
    rintro e12 w12 ⟨rfl, hg12⟩
    have HG12 := Lib.hid (HG11.out.trans hg12)
    go_wp2
    go_ret
    exact ⟨rfl, HG12.out⟩

set_option maxRecDepth 100000 in
theorem outboxGoes_lifted (os : Os) (started : os.Started) (H : Type) (enc : TypeId × Value → H) :
    ReturnsInHanded {} Try.checked os 4 .any (Rows.outboxGoesSpec.pre6 enc Try.prog Try.f4 Rows.outboxGoesRow.domain false) (Rows.outboxGoesSpec.post enc Try.prog Try.f4 false true false false) := by
  refine returnsInHanded_of_change (C := Try.checked) own2 started (by kernel_rfl) Try.func4
    (ChangeSpec.witness6 (enc := enc) (C := Try.checked) false ⟨#[], #[.slice none 0 0, .int .i64 0, .int .i64 0], []⟩ 8 (by kernel_rfl) (by kernel_rfl) (by kernel_rfl) (by kernel_rfl)) ?_
  intro W base args ds gs before hval0 hW hcnd _
  have hval : ∀ (j : Nat) t v, Try.f4.params[j]? = some t → args[j]? = some v → Value.okWide Try.prog W .any base t v := hval0
  have hW' := hW
  obtain ⟨p, q, hA0, hV, rfl, hfz, hnd⟩ := hW
  have hA : DataW.TrodAll enc Try.prog W 0 (fun _ => true) true Try.f4.params.toList args.toList ds p := hA0
  rw [Try.params4] at hA hval
  obtain ⟨v0, v1, v2, d0, d1, d2, p0, p1, p2, rfl, rfl, rfl, q0, q1, q2⟩ := trodAll_three hA
  obtain ⟨rfl, rfl⟩ := trodVars_none hV
  have k0 := q0
  have lt0 : ∀ x ∈ p0, x.block < W.heap.size := by obtain ⟨m, hm⟩ := k0; exact DataW.trod_lt m _ _ _ hm
  obtain ⟨ad0, cap0, D0, rfl, hD0, hc0, hn0⟩ := open_items (hval 0 22 v0 rfl rfl) q0
  obtain ⟨a1, rfl, rfl, rfl, wa1⟩ := open_int Try.underlying3 (hval 1 3 v1 rfl rfl) q1
  have rg1 := rng_i64 wa1
  obtain ⟨a2, rfl, rfl, rfl, wa2⟩ := open_int Try.underlying3 (hval 2 3 v2 rfl rfl) q2
  have rg2 := rng_i64 wa2
  clear hA0 hval0
  refine (outboxGoes_walk D0 ad0 cap0 a1 a2 W hD0 hc0 hn0).mono fun e W' ⟨he, hg⟩ => ?_
  subst he
  exact ⟨_, rfl, _, _, _, [], _, [], hW', trodAll_mk1 (shut_bool Try.underlying4 _), trodAll_mk3 (Below.trod laidOut2 (by kernel_rfl) (of_decide_eq_true (by kernel_rfl)) k0 hg.below lt0) (shut_int Try.underlying3 wa1) (shut_int Try.underlying3 wa2), rfl, hg.below.frame _, fun h => by cases h⟩

theorem outboxGoes_holds : Rows.OutboxGoesSaid :=
  OpenClaim.holds_of_wide 4 Try.f4 rfl rfl rfl rfl rfl rfl rfl ⟨rfl, rfl, rfl, rfl, rfl⟩ rfl rfl rfl rfl rfl (by kernel_rfl) Try.func4 (by kernel_rfl)
    (of_decide_eq_true (by kernel_rfl)) (by unfold Func.isWrapper; first | (rw [if_pos (by decide +kernel)]; kernel_rfl) | (rw [if_neg (by decide +kernel)]; exact ⟨rfl, rfl⟩))
    (fun os started H enc _ => outboxGoes_lifted os started H enc)
end Go.Proofs.Ytilkfgpcibdikaa
