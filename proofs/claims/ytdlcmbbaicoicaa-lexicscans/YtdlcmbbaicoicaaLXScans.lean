/- For every text the law LexicScans answers true: it is cut into the tokens that the document says, or has the fault that it says. -/
import Derived.Test.YtdlcmbbaicoicaaAwkX
import Derived.Test.YtdlcmbbaicoicaaRefS
import Derived.Test.YtdlcmbbaicoicaaOpenT
import Derived.Test.YtdlcmbbaicoicaaLexO
namespace Go.Proofs.Ytdlcmbbaicoicaa
open Go.ChangeShapes Go.WideShapes Go.ChangeAt Go.RowKit
open Go.ChangeMaps (open_string shut_string)
open Lex (Tok scT scF scA)

set_option maxHeartbeats 2000000 in
theorem lexicScans_walk (s : ByteArray) (w : World) : Calls Try.prog 3 #[.string s] w fun e w' => e = .returned (.bool true) ∧ Gr w w' := by
  have H1 : Hid (∀ w', Calls Try.prog 9 #[.string s] w' fun e w2 => ∃ ad cap, e = .returned (.tuple #[.slice ad (scT s.data.toList).length cap, .agg #[.int .i64 (scF s.data.toList), .int .i64 (scA s.data.toList)]]) ∧ (scT s.data.toList).length ≤ cap ∧ ToksAt w2 ad (scT s.data.toList) ∧ (∀ a, ad = some a → w'.heap.size ≤ a.block) ∧ Gr w' w2) := fun w' => Scan_any s w'
  have H2 : Hid (∀ w', Calls Try.prog 10 #[.string s] w' fun e w2 => ∃ ad cap, e = .returned (.tuple #[.slice ad (scT s.data.toList).length cap, .agg #[.int .i64 (scF s.data.toList), .int .i64 (scA s.data.toList)]]) ∧ (scT s.data.toList).length ≤ cap ∧ ToksAt w2 ad (scT s.data.toList) ∧ (∀ a, ad = some a → w'.heap.size ≤ a.block) ∧ Gr w' w2) := fun w' => refScan_any s w'
  have H3 : Hid (∀ w', Calls Try.prog 12 #[] w' fun e w2 => e = .returned (.bool true) ∧ Gr w' w2) := awake_any
  have H4 : Hid (∀ (ad1 ad2 : Option Addr) (c1 c2 : Nat) (w' : World), ToksAt w' ad1 (scT s.data.toList) → ToksAt w' ad2 (scT s.data.toList) → Calls Try.prog 11 #[.slice ad1 (scT s.data.toList).length c1, .slice ad2 (scT s.data.toList).length c2] w' fun e w2 => e = .returned (.bool true) ∧ Gr w' w2) := fun ad1 ad2 c1 c2 w' h1 h2 => same_eq _ ad1 ad2 c1 c2 w' h1 h2 (by have := Lex.scT_len s.data.toList; omega)
  generalize scT s.data.toList = RT at *
  generalize scF s.data.toList = RF at *
  generalize scA s.data.toList = RA at *
  go_enter Try.func3, Try.ntmps3
  go_wp2_with fail
  refine (H1.out _).mono ?_
  rintro e w1 ⟨ad1, cap1, rfl, _, hT1, _, hg1⟩
  have HF1 : Hid (FaAt (w1.alloc (.cells #[.int .i64 RF, .int .i64 RA] 25)) w1.heap.size RF RA) := FaAt.new w1 RF RA 25 _ rfl
  go_wp2_with fail
  refine (H2.out _).mono ?_
  rintro e w2 ⟨ad2, cap2, rfl, _, hT2, _, hg2⟩
  have hg12 : Gr w1 w2 := (Gr.refl _).alloc.trans hg2
  have HF2 : Hid (FaAt w2 w1.heap.size RF RA) := HF1.out.gr hg2
  have HG2 : Hid (Gr w w2) := hg1.trans hg12
  have HT1 : Hid (ToksAt w2 ad1 RT) := hT1.gr hg12
  have HT2 : Hid (ToksAt w2 ad2 RT) := hT2
  clear hT1 hT2 hg1 hg2 hg12 HF1
  go_wp2_with fail
  refine (H4.out ad1 ad2 cap1 cap2 _ (HT1.out.gr (Gr.refl _).alloc) (HT2.out.gr (Gr.refl _).alloc)).mono ?_
  rintro e w3 ⟨rfl, hg3⟩
  obtain ⟨p0, p1, _, _, pl⟩ := HF2.out.gr ((Gr.refl _).alloc.trans hg3)
  obtain ⟨q0, q1, _, _, ql⟩ := (FaAt.new w2 RF RA 25 _ rfl).gr hg3
  have HG3 : Hid (Gr w w3) := HG2.out.trans ((Gr.refl _).alloc.trans hg3)
  clear hg3
  go_wp2_with fail
  refine (H3.out _).mono ?_
  rintro e w4 ⟨rfl, hg4⟩
  go_wp2
  go_ret
  exact ⟨rfl, HG3.out.trans hg4⟩

set_option maxRecDepth 100000 in
theorem lexicScans_lifted (os : Os) (started : os.Started) (H : Type) (enc : TypeId × Value → H) :
    ReturnsInHanded {} Try.checked os 3 .any (Rows.lexicScansSpec.pre6 enc Try.prog Try.f3 Rows.lexicScansRow.domain false) (Rows.lexicScansSpec.post enc Try.prog Try.f3 false true false false) := by
  refine returnsInHanded_of_change (C := Try.checked) own2 started (by kernel_rfl) Try.func3
    (ChangeSpec.witness6 (enc := enc) (C := Try.checked) false ⟨#[], #[.string ⟨#[]⟩], []⟩ 8 (by kernel_rfl) (by kernel_rfl) (by kernel_rfl) (by kernel_rfl)) ?_
  intro W base args ds gs before hval0 hW hcnd _
  have hval : ∀ (j : Nat) t v, Try.f3.params[j]? = some t → args[j]? = some v → Value.okWide Try.prog W .any base t v := hval0
  have hW' := hW
  obtain ⟨p, q, hA0, hV, rfl, hfz, hnd⟩ := hW
  have hA : DataW.TrodAll enc Try.prog W 0 (fun _ => true) true Try.f3.params.toList args.toList ds p := hA0
  rw [Try.params3] at hA hval
  obtain ⟨v0, d0, rfl, rfl, q0⟩ := trodAll_one hA
  obtain ⟨rfl, rfl⟩ := trodVars_none hV
  obtain ⟨a0, rfl, rfl, rfl, wa0⟩ := open_string Try.underlying9 (hval 0 9 v0 rfl rfl) q0
  clear hA0 hval0
  refine (lexicScans_walk a0 W).mono fun e W' ⟨he, hg⟩ => ?_
  subst he
  exact ⟨_, rfl, _, _, _, [], _, [], hW', trodAll_mk1 (shut_bool Try.underlying4 _), trodAll_mk1 (shut_string Try.underlying9 wa0), rfl, hg.below.frame _, fun h => by cases h⟩

theorem lexicScans_holds : Rows.LexicScansSaid :=
  OpenClaim.holds_of_wide 3 Try.f3 rfl rfl rfl rfl rfl rfl rfl ⟨rfl, rfl, rfl, rfl, rfl⟩ rfl rfl rfl rfl rfl (by kernel_rfl) Try.func3 (by kernel_rfl)
    (of_decide_eq_true (by kernel_rfl)) (by unfold Func.isWrapper; first | (rw [if_pos (by decide +kernel)]; kernel_rfl) | (rw [if_neg (by decide +kernel)]; exact ⟨rfl, rfl⟩))
    (fun os started H enc _ => lexicScans_lifted os started H enc)
end Go.Proofs.Ytdlcmbbaicoicaa
