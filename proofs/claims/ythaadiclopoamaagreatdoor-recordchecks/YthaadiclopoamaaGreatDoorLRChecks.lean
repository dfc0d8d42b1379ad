/- For every input the law RecordChecks answers true: any record may be, or not, and its move, and that is written, or refused, as the document says. -/
import Derived.Test.YthaadiclopoamaaGreatDoorGBA
import Derived.Test.YthaadiclopoamaaGreatDoorGV
import Derived.Test.YthaadiclopoamaaGreatDoorGBG
import Derived.Test.YthaadiclopoamaaGreatDoorGBH
import Derived.SevenTiedAt
set_option maxRecDepth 100000
set_option maxHeartbeats 8000000
namespace Go.Proofs.YthaadiclopoamaaGreatDoor
open Go.ChangeShapes Go.WideShapes Go.ChangeAt Go.RowKit
open Go.ChangeMaps (open_string shut_string)
open Df (Stp)
theorem recordChecks_walk (k mk r n : Int) (L : List (Int × Int)) (s y : Int) (md : ByteArray) (T : List Stp) (a : ByteArray) (v : Int) (d : ByteArray) (S : List Stp) (t : ByteArray) (a1 : Option Addr) (e1 : Nat) (a2 : Option Addr) (e2 : Nat) (a3 : Option Addr) (e3 : Nat) (w : World) (he : EnvR w) (h : RcIn w (⟨k, ⟨mk, r, n, L, s, y, md, T⟩, a, v, d, S, t⟩ : Rc) a1 e1 a2 e2 a3 e3) :
  Calls Tryz.prog 3 #[.agg #[.int .i64 k, .int .i64 mk, .int .i64 r, .int .i64 n, .slice a1 L.length e1, .int .i64 s, .int .i64 y, .string md, .slice a2 T.length e2, .string a, .int .i64 v, .string d, .slice a3 S.length e3, .string t]] w fun e w' => e = .returned (.bool true) /\ Gr w w' := by
 have HA : Hid (∀ w', Gr w w' -> Calls Tryz.prog 9 #[] w' fun e w2 => e = .returned (.bool true) /\ Gr w' w2) := fun w' g => awake_any w' (he.gr g)
 have HW : Hid (∀ w', Gr w w' -> Calls Tryz.prog 8 #[.agg #[.int .i64 k, .int .i64 mk, .int .i64 r, .int .i64 n, .slice a1 L.length e1, .int .i64 s, .int .i64 y, .string md, .slice a2 T.length e2, .string a, .int .i64 v, .string d, .slice a3 S.length e3, .string t]] w' fun e w2 => e = .returned (.bool (fewB (⟨k, ⟨mk, r, n, L, s, y, md, T⟩, a, v, d, S, t⟩ : Rc))) /\ Gr w' w2) := fun w' _ => few_any k mk r n L s y md T a v d S t a1 e1 a2 e2 a3 e3 w'
 cases hf : fewB (⟨k, ⟨mk, r, n, L, s, y, md, T⟩, a, v, d, S, t⟩ : Rc) with
 | true =>
  rw [hf] at HW
  have H1 : Hid (∀ w', Gr w w' -> Calls Tryz.prog 10 #[.agg #[.int .i64 mk, .int .i64 r, .int .i64 n, .slice a1 L.length e1, .int .i64 s, .int .i64 y, .string md, .slice a2 T.length e2]] w' fun e w2 => e = .returned (.tuple #[.string ⟨(Rc.shL (⟨mk, r, n, L, s, y, md, T⟩ : Mv)).toArray⟩, .int .i64 (Rc.mvE (⟨mk, r, n, L, s, y, md, T⟩ : Mv))]) /\ Gr w' w2) := fun w' g => showR_any mk r n L s y md T a1 e1 a2 e2 w' (h.mv.gr g) (he.frm.gr g) (he.env.gr g)
  have H2 : Hid (∀ w', Gr w w' -> Calls Tryz.prog 11 #[.agg #[.int .i64 mk, .int .i64 r, .int .i64 n, .slice a1 L.length e1, .int .i64 s, .int .i64 y, .string md, .slice a2 T.length e2]] w' fun e w2 => e = .returned (.tuple #[.string ⟨(Rc.shL (⟨mk, r, n, L, s, y, md, T⟩ : Mv)).toArray⟩, .int .i64 (Rc.mvE (⟨mk, r, n, L, s, y, md, T⟩ : Mv))]) /\ Gr w' w2) := fun w' g => qshow_any mk r n L s y md T a1 e1 a2 e2 w' (h.mv.gr g)
  have H3 : Hid (∀ w', Gr w w' -> Calls Tryz.prog 12 #[.agg #[.int .i64 mk, .int .i64 r, .int .i64 n, .slice a1 L.length e1, .int .i64 s, .int .i64 y, .string md, .slice a2 T.length e2]] w' fun e w2 => e = .returned (.int .i64 (Rc.mvE (⟨mk, r, n, L, s, y, md, T⟩ : Mv))) /\ Gr w' w2) := fun w' g => move_any mk r n L s y md T a1 e1 a2 e2 w' (h.mv.gr g) (he.frm.gr g)
  have H4 : Hid (∀ w', Gr w w' -> Calls Tryz.prog 13 #[.agg #[.int .i64 mk, .int .i64 r, .int .i64 n, .slice a1 L.length e1, .int .i64 s, .int .i64 y, .string md, .slice a2 T.length e2]] w' fun e w2 => e = .returned (.int .i64 (Rc.mvE (⟨mk, r, n, L, s, y, md, T⟩ : Mv))) /\ Gr w' w2) := fun w' g => rmove_any mk r n L s y md T a1 e1 a2 e2 w' (h.mv.gr g)
  have H5 : Hid (∀ w', Gr w w' -> Calls Tryz.prog 14 #[.agg #[.int .i64 k, .int .i64 mk, .int .i64 r, .int .i64 n, .slice a1 L.length e1, .int .i64 s, .int .i64 y, .string md, .slice a2 T.length e2, .string a, .int .i64 v, .string d, .slice a3 S.length e3, .string t]] w' fun e w2 => e = .returned (.int .i64 (Rc.rcE (⟨k, ⟨mk, r, n, L, s, y, md, T⟩, a, v, d, S, t⟩ : Rc))) /\ Gr w' w2) := fun w' g => rCheck_any k mk r n L s y md T a v d S t a1 e1 a2 e2 a3 e3 w' (h.gr g) (he.frm.gr g)
  have H6 : Hid (∀ w', Gr w w' -> Calls Tryz.prog 15 #[.agg #[.int .i64 k, .int .i64 mk, .int .i64 r, .int .i64 n, .slice a1 L.length e1, .int .i64 s, .int .i64 y, .string md, .slice a2 T.length e2, .string a, .int .i64 v, .string d, .slice a3 S.length e3, .string t]] w' fun e w2 => e = .returned (.int .i64 (Rc.rcE (⟨k, ⟨mk, r, n, L, s, y, md, T⟩, a, v, d, S, t⟩ : Rc))) /\ Gr w' w2) := fun w' g => rchk_any k mk r n L s y md T a v d S t a1 e1 a2 e2 a3 e3 w' (h.gr g)
  generalize Rc.shL (⟨mk, r, n, L, s, y, md, T⟩ : Mv) = ST at *
  generalize Rc.mvE (⟨mk, r, n, L, s, y, md, T⟩ : Mv) = CM at *
  generalize Rc.rcE (⟨k, ⟨mk, r, n, L, s, y, md, T⟩, a, v, d, S, t⟩ : Rc) = CR at *
  have q1 : (CM == CM) = true := by simp
  have q2 : (CR == CR) = true := by simp
  have q4 : (ST == ST) = true := by simp
  clear he h hf
  go_enter Tryz.func3, Tryz.ntmps3
  go_wp2_with fail
  refine (HW.out _ ?_).mono ?_
  ·exact (Gr.refl _).alloc
  rintro f0 w0 ⟨rfl, hg0⟩
  have G0 := (Gr.refl w).alloc.trans hg0
  have B0 := (Cs.new w _ _ _ rfl).gr hg0
  clear hg0
  obtain ⟨c0, c1, c2, c3, c4, c5, c6, c7, c8, c9, c10, c11, c12, c13, clt⟩ := B0.c14
  go_wp2_with fail
  refine (H1.out _ G0).mono ?_
  rintro f1 w1 ⟨rfl, hg1⟩
  have G1 : Gr w w1 := G0.trans hg1
  have B1 := B0.gr hg1
  clear hg1 B0
  clear c0 c1 c2 c3 c4 c5 c6 c7 c8 c9 c10 c11 c12 c13 clt
  obtain ⟨c0, c1, c2, c3, c4, c5, c6, c7, c8, c9, c10, c11, c12, c13, clt⟩ := B1.c14
  go_wp2_with fail
  refine (H2.out _ G1).mono ?_
  rintro f2 w2 ⟨rfl, hg2⟩
  have G2 : Gr w w2 := G1.trans hg2
  have B2 := B1.gr hg2
  clear hg2 B1
  clear c0 c1 c2 c3 c4 c5 c6 c7 c8 c9 c10 c11 c12 c13 clt
  obtain ⟨c0, c1, c2, c3, c4, c5, c6, c7, c8, c9, c10, c11, c12, c13, clt⟩ := B2.c14
  go_wp2
  go_region_held3 (fun w' => Gr w2 w' /\ w'.cell? ⟨w.heap.size, 0, none⟩ = some (.int .i64 k) /\ w'.cell? ⟨w.heap.size, 1, none⟩ = some (.int .i64 mk) /\ w'.cell? ⟨w.heap.size, 2, none⟩ = some (.int .i64 r) /\ w'.cell? ⟨w.heap.size, 3, none⟩ = some (.int .i64 n) /\ w'.cell? ⟨w.heap.size, 4, none⟩ = some (.slice a1 L.length e1) /\ w'.cell? ⟨w.heap.size, 5, none⟩ = some (.int .i64 s) /\ w'.cell? ⟨w.heap.size, 6, none⟩ = some (.int .i64 y) /\ w'.cell? ⟨w.heap.size, 7, none⟩ = some (.string md) /\ w'.cell? ⟨w.heap.size, 8, none⟩ = some (.slice a2 T.length e2) /\ w'.cell? ⟨w.heap.size, 9, none⟩ = some (.string a) /\ w'.cell? ⟨w.heap.size, 10, none⟩ = some (.int .i64 v) /\ w'.cell? ⟨w.heap.size, 11, none⟩ = some (.string d) /\ w'.cell? ⟨w.heap.size, 12, none⟩ = some (.slice a3 S.length e3) /\ w'.cell? ⟨w.heap.size, 13, none⟩ = some (.string t))
   ((go_split_ands; exact ⟨(by repeat(first|exact Gr.r _|refine Gr.a ?_|refine Gr.d ?_|refine Gr.t ?_ (by assumption))), Gr.keep (W := w2) (by repeat(first|exact Gr.r _|refine Gr.a ?_|refine Gr.d ?_|refine Gr.t ?_ (by assumption))) c0, Gr.keep (W := w2) (by repeat(first|exact Gr.r _|refine Gr.a ?_|refine Gr.d ?_|refine Gr.t ?_ (by assumption))) c1, Gr.keep (W := w2) (by repeat(first|exact Gr.r _|refine Gr.a ?_|refine Gr.d ?_|refine Gr.t ?_ (by assumption))) c2, Gr.keep (W := w2) (by repeat(first|exact Gr.r _|refine Gr.a ?_|refine Gr.d ?_|refine Gr.t ?_ (by assumption))) c3, Gr.keep (W := w2) (by repeat(first|exact Gr.r _|refine Gr.a ?_|refine Gr.d ?_|refine Gr.t ?_ (by assumption))) c4, Gr.keep (W := w2) (by repeat(first|exact Gr.r _|refine Gr.a ?_|refine Gr.d ?_|refine Gr.t ?_ (by assumption))) c5, Gr.keep (W := w2) (by repeat(first|exact Gr.r _|refine Gr.a ?_|refine Gr.d ?_|refine Gr.t ?_ (by assumption))) c6, Gr.keep (W := w2) (by repeat(first|exact Gr.r _|refine Gr.a ?_|refine Gr.d ?_|refine Gr.t ?_ (by assumption))) c7, Gr.keep (W := w2) (by repeat(first|exact Gr.r _|refine Gr.a ?_|refine Gr.d ?_|refine Gr.t ?_ (by assumption))) c8, Gr.keep (W := w2) (by repeat(first|exact Gr.r _|refine Gr.a ?_|refine Gr.d ?_|refine Gr.t ?_ (by assumption))) c9, Gr.keep (W := w2) (by repeat(first|exact Gr.r _|refine Gr.a ?_|refine Gr.d ?_|refine Gr.t ?_ (by assumption))) c10, Gr.keep (W := w2) (by repeat(first|exact Gr.r _|refine Gr.a ?_|refine Gr.d ?_|refine Gr.t ?_ (by assumption))) c11, Gr.keep (W := w2) (by repeat(first|exact Gr.r _|refine Gr.a ?_|refine Gr.d ?_|refine Gr.t ?_ (by assumption))) c12, Gr.keep (W := w2) (by repeat(first|exact Gr.r _|refine Gr.a ?_|refine Gr.d ?_|refine Gr.t ?_ (by assumption))) c13⟩))
   ((first | (go_at_call 12; refine (H3.out _ ?_).mono ?_; (go_split_ands; exact G2.trans (by repeat(first|exact Gr.r _|refine Gr.a ?_|refine Gr.d ?_|refine Gr.t ?_ (by assumption)))); rintro e v1 ⟨rfl, hv1⟩; go_split_ands) | (go_at_call 13; refine (H4.out _ ?_).mono ?_; (go_split_ands; exact G2.trans (by repeat(first|exact Gr.r _|refine Gr.a ?_|refine Gr.d ?_|refine Gr.t ?_ (by assumption)))); rintro e v2 ⟨rfl, hv2⟩; go_split_ands) | (go_at_call 14; refine (H5.out _ ?_).mono ?_; (go_split_ands; exact G2.trans (by repeat(first|exact Gr.r _|refine Gr.a ?_|refine Gr.d ?_|refine Gr.t ?_ (by assumption)))); rintro e v3 ⟨rfl, hv3⟩; go_split_ands) | (go_at_call 15; refine (H6.out _ ?_).mono ?_; (go_split_ands; exact G2.trans (by repeat(first|exact Gr.r _|refine Gr.a ?_|refine Gr.d ?_|refine Gr.t ?_ (by assumption)))); rintro e v4 ⟨rfl, hv4⟩; go_split_ands) | (go_at_call 9; refine (HA.out _ ?_).mono ?_; (go_split_ands; exact G2.trans (by repeat(first|exact Gr.r _|refine Gr.a ?_|refine Gr.d ?_|refine Gr.t ?_ (by assumption)))); rintro e v5 ⟨rfl, hv5⟩; go_split_ands)))
  all_goals go_wp2
  all_goals go_ret
  all_goals exact ⟨rfl, G2.trans (by repeat(first|exact Gr.r _|refine Gr.a ?_|refine Gr.d ?_|refine Gr.t ?_ (by assumption)))⟩
 | false =>
  rw [hf] at HW
  clear he h hf
  go_enter Tryz.func3, Tryz.ntmps3
  go_wp2_with fail
  refine (HW.out _ ?_).mono ?_
  ·exact (by repeat(first|exact Gr.r _|refine Gr.a ?_|refine Gr.d ?_|refine Gr.t ?_ (by assumption)))
  rintro f1 w1 ⟨rfl, hg1⟩
  have G1 : Gr w w1 := (by repeat(first|exact Gr.r _|refine Gr.a ?_|refine Gr.d ?_|refine Gr.t ?_ (by assumption)))
  go_wp2_with fail
  refine (HA.out _ G1).mono ?_
  rintro f2 w2 ⟨rfl, hg2⟩
  go_wp2
  go_ret
  exact ⟨rfl, G1.trans hg2⟩

theorem recordChecks_lifted (os : Os) (started : os.Started) (H : Type) (enc : TypeId × Value -> H) :
  ReturnsInHanded {} Tryz.checked os 3 .any (fun w args => (Rows.recordChecksSpec.pre enc Tryz.prog Tryz.f3 [] false w args /\ laidMetH Tryz.prog laidL w) /\ sizedMet enc Tryz.prog Tryz.f3 (OpenSpec.ofChange Rows.recordChecksSpec) false w args)
   (Rows.recordChecksSpec.post enc Tryz.prog Tryz.f3 false true false false) := by
 refine returnsInHanded_of_change_and (C := Tryz.checked) (X := fun w _ => laidMetH Tryz.prog laidL w) (fun _ _ _ hh h => h.of_heap hh) own2 started (by kernel_rfl) Tryz.func3
  (ChangeSpec.witness_shaped (enc := enc) (C := Tryz.checked) (os := os) (X := fun w _ => laidMetH Tryz.prog laidL w) false (World.doorLaid Tryz.prog 400 os) #[.agg #[.int .i64 0, .int .i64 0, .int .i64 0, .int .i64 0, .slice none 0 0, .int .i64 0, .int .i64 0, .string ⟨#[]⟩, .slice none 0 0, .string ⟨#[]⟩, .int .i64 0, .string ⟨#[]⟩, .slice none 0 0, .string ⟨#[]⟩]] 8 rfl (World.shaped_of_RefB (by kernel_rfl) (by kernel_rfl)) (by kernel_rfl) (by kernel_rfl) (by kernel_rfl) (door_met os _)) ?_
 intro W base args ds gs before hval0 hW _ hsz0 hL _
 have hval : ∀ (j : Nat) t v, Tryz.f3.params[j]? = some t -> args[j]? = some v -> Value.okWide Tryz.prog W .any base t v := hval0
 have hsz : (DataW.weightsEach Tryz.prog (Tryz.f3.params.toList ++ Rows.recordChecksSpec.plain.varTypes Tryz.prog) (ds ++ gs)).all (· <= reachBytes) = true := hsz0
 have hW' := hW
 obtain ⟨p, q, hA0, hV, rfl, hfz, hnd⟩ := hW
 have hA : DataW.TrodAll enc Tryz.prog W 0 (fun _ => true) true Tryz.f3.params.toList args.toList ds p := hA0
 rw [Tryz.params3] at hA hval hsz
 obtain ⟨v0, d0, rfl, rfl, h0⟩ := trodAll_one hA
 obtain ⟨rfl, rfl⟩ := trodVars_none hV
 have k0 := h0
 have lt0 : ∀ x ∈ p, x.block < W.heap.size := by obtain ⟨m, hm⟩ := k0; exact DataW.trod_lt m _ _ _ hm
 obtain ⟨x0, u0, f0, y0, g0, z0, i0, rfl, hI0⟩ := open_rec (hval 0 31 v0 rfl rfl) h0
 clear hA0 hval0
 have hT := env_of_laid hL
 refine (recordChecks_walk x0.k x0.m.k x0.m.r x0.m.n x0.m.L x0.m.s x0.m.y x0.m.d x0.m.S x0.a x0.v x0.d x0.S x0.t u0 f0 y0 g0 z0 i0 W hT hI0).mono fun e W' ⟨he, hg⟩ => ?_
 subst he
 exact ⟨_, rfl, _, _, _, [], _, [], hW', trodAll_mk1 (shut_bool Tryz.underlying4 _), trodAll_mk1 (Below.trod laidOut2 (by kernel_rfl) (of_decide_eq_true (by kernel_rfl)) k0 hg.below lt0), rfl, hg.below.frame _, fun h => by cases h⟩

theorem recordChecks_holds : Rows.RecordChecksSaid :=
 OpenClaim.holds_of_wide 3 Tryz.f3 rfl rfl rfl rfl rfl rfl rfl ⟨rfl, rfl, rfl, rfl, rfl⟩ rfl rfl rfl rfl rfl (by kernel_rfl) Tryz.func3 (by kernel_rfl)
  (of_decide_eq_true (by kernel_rfl)) (by unfold Func.isWrapper; first | (rw [if_pos (by decide +kernel)]; kernel_rfl) | (rw [if_neg (by decide +kernel)]; exact ⟨rfl, rfl⟩))
  (fun os started H enc _ => recordChecks_lifted os started H enc)

theorem recordChecks_card_holds : Rows.RecordChecksCardSaid :=
 Claim7.holds_tied_plain_at .later [] [.data, .data, .data, .sentinel, .sentinel, .data] true (true, "5e01d08355a620625b7217d8cd0ac96b317f0158d9cea4c397742b982576dae0") true
  recordChecks_holds (fun _ h => by cases h) (by kernel_rfl) (fun _ h => by cases h) recordChecks_row_tie rfl ⟨rfl, rfl⟩ (by kernel_rfl) rfl
  (fun f fn hf hfn => by
   obtain rfl : f = 3 := Option.some.inj ((show Tryz.prog.funcNamed "entente/ententelaw14.RecordChecks" = some 3 by kernel_rfl).symm.trans hf) |>.symm
   obtain rfl : fn = Tryz.f3 := (Option.some.inj (Tryz.func3.symm.trans hfn)).symm
   exact ⟨by kernel_rfl, fun j t ht => by
    rw [Tryz.params3] at ht
    have hm : t ∈ [31] := by simpa using Array.mem_of_getElem? ht
    have hall : ([31].all fun u => !Tryz.prog.wantsStandIn u) = true := by kernel_rfl
    exact (show Tryz.prog.wantsStandIn t = false by simpa using List.all_eq_true.1 hall t hm)⟩)
  (by kernel_rfl)
end Go.Proofs.YthaadiclopoamaaGreatDoor
