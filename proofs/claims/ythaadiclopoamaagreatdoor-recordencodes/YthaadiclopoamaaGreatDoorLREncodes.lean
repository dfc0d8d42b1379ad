/- For every input the law RecordEncodes answers true: any record is laid as the document says, or refused. -/
import Derived.Test.YthaadiclopoamaaGreatDoorGBA
import Derived.Test.YthaadiclopoamaaGreatDoorGV
import Derived.Test.YthaadiclopoamaaGreatDoorGBK
import Derived.SevenTiedAt
set_option maxRecDepth 100000
set_option maxHeartbeats 8000000
namespace Go.Proofs.YthaadiclopoamaaGreatDoor
open Go.ChangeShapes Go.WideShapes Go.ChangeAt Go.RowKit
open Go.ChangeMaps (open_string shut_string)
open Df (Stp)
theorem recordEncodes_walk (k mk r n : Int) (L : List (Int × Int)) (s y : Int) (md : ByteArray) (T : List Stp) (a : ByteArray) (v : Int) (d : ByteArray) (S : List Stp) (t : ByteArray) (a1 : Option Addr) (e1 : Nat) (a2 : Option Addr) (e2 : Nat) (a3 : Option Addr) (e3 : Nat) (w : World) (he : EnvR w) (h : RcIn w (⟨k, ⟨mk, r, n, L, s, y, md, T⟩, a, v, d, S, t⟩ : Rc) a1 e1 a2 e2 a3 e3) :
  Calls Tryz.prog 4 #[.agg #[.int .i64 k, .int .i64 mk, .int .i64 r, .int .i64 n, .slice a1 L.length e1, .int .i64 s, .int .i64 y, .string md, .slice a2 T.length e2, .string a, .int .i64 v, .string d, .slice a3 S.length e3, .string t]] w fun e w' => e = .returned (.bool true) /\ Gr w w' := by
 have HA : Hid (∀ w', Gr w w' -> Calls Tryz.prog 9 #[] w' fun e w2 => e = .returned (.bool true) /\ Gr w' w2) := fun w' g => awake_any w' (he.gr g)
 have HW : Hid (∀ w', Gr w w' -> Calls Tryz.prog 8 #[.agg #[.int .i64 k, .int .i64 mk, .int .i64 r, .int .i64 n, .slice a1 L.length e1, .int .i64 s, .int .i64 y, .string md, .slice a2 T.length e2, .string a, .int .i64 v, .string d, .slice a3 S.length e3, .string t]] w' fun e w2 => e = .returned (.bool (fewB (⟨k, ⟨mk, r, n, L, s, y, md, T⟩, a, v, d, S, t⟩ : Rc))) /\ Gr w' w2) := fun w' _ => few_any k mk r n L s y md T a v d S t a1 e1 a2 e2 a3 e3 w'
 cases hf : fewB (⟨k, ⟨mk, r, n, L, s, y, md, T⟩, a, v, d, S, t⟩ : Rc) with
 | true =>
  rw [hf] at HW
  have H1 : Hid (∀ w', Gr w w' -> Calls Tryz.prog 16 #[.agg #[.int .i64 k, .int .i64 mk, .int .i64 r, .int .i64 n, .slice a1 L.length e1, .int .i64 s, .int .i64 y, .string md, .slice a2 T.length e2, .string a, .int .i64 v, .string d, .slice a3 S.length e3, .string t]] w' fun e w2 => e = .returned (.tuple #[.string ⟨(Rc.encL (⟨k, ⟨mk, r, n, L, s, y, md, T⟩, a, v, d, S, t⟩ : Rc)).toArray⟩, .int .i64 (Rc.rcE (⟨k, ⟨mk, r, n, L, s, y, md, T⟩, a, v, d, S, t⟩ : Rc))]) /\ Gr w' w2) := fun w' g => encR_any k mk r n L s y md T a v d S t a1 e1 a2 e2 a3 e3 w' (h.gr g) (he.frm.gr g) (he.env.gr g)
  have H2 : Hid (∀ w', Gr w w' -> Calls Tryz.prog 17 #[.agg #[.int .i64 k, .int .i64 mk, .int .i64 r, .int .i64 n, .slice a1 L.length e1, .int .i64 s, .int .i64 y, .string md, .slice a2 T.length e2, .string a, .int .i64 v, .string d, .slice a3 S.length e3, .string t]] w' fun e w2 => e = .returned (.tuple #[.string ⟨(Rc.encL (⟨k, ⟨mk, r, n, L, s, y, md, T⟩, a, v, d, S, t⟩ : Rc)).toArray⟩, .int .i64 (Rc.rcE (⟨k, ⟨mk, r, n, L, s, y, md, T⟩, a, v, d, S, t⟩ : Rc))]) /\ Gr w' w2) := fun w' g => qenc_any k mk r n L s y md T a v d S t a1 e1 a2 e2 a3 e3 w' (h.gr g)
  generalize Rc.encL (⟨k, ⟨mk, r, n, L, s, y, md, T⟩, a, v, d, S, t⟩ : Rc) = ST at *
  generalize Rc.rcE (⟨k, ⟨mk, r, n, L, s, y, md, T⟩, a, v, d, S, t⟩ : Rc) = CR at *
  have q2 : (CR == CR) = true := by simp
  have q4 : (ST == ST) = true := by simp
  clear he h hf
  go_enter Tryz.func4, Tryz.ntmps4
  go_wp2_with fail
  refine (HW.out _ ?_).mono ?_
  ·exact (Gr.refl _).alloc
  rintro f0 w0 ⟨rfl, hg0⟩
  have G0 := (Gr.refl w).alloc.trans hg0
  have B0 := (Cs.new w _ _ _ rfl).gr hg0
  clear hg0
  obtain ⟨c0, c1, c2, c3, c4, c5, c6, c7, c8, c9, c10, c11, c12, c13, clt⟩ := B0.c14
  go_wp2_with fail
  refine (H1.out _ G0).mono ?_
  rintro f1 w1 ⟨rfl, hg1⟩
  have G1 : Gr w w1 := G0.trans hg1
  have B1 := B0.gr hg1
  clear hg1 B0
  clear c0 c1 c2 c3 c4 c5 c6 c7 c8 c9 c10 c11 c12 c13 clt
  obtain ⟨c0, c1, c2, c3, c4, c5, c6, c7, c8, c9, c10, c11, c12, c13, clt⟩ := B1.c14
  go_wp2_with fail
  refine (H2.out _ G1).mono ?_
  rintro f2 w2 ⟨rfl, hg2⟩
  have G2 : Gr w w2 := G1.trans hg2
  go_wp2_with fail
  refine (HA.out _ G2).mono ?_
  rintro f3 w3 ⟨rfl, hg3⟩
  have G3 : Gr w w3 := G2.trans hg3
  go_wp2
  go_ret
  exact ⟨rfl, G3⟩
 | false =>
  rw [hf] at HW
  clear he h hf
  go_enter Tryz.func4, Tryz.ntmps4
  go_wp2_with fail
  refine (HW.out _ ?_).mono ?_
  ·exact (by repeat(first|exact Gr.r _|refine Gr.a ?_|refine Gr.d ?_|refine Gr.t ?_ (by assumption)))
  rintro f1 w1 ⟨rfl, hg1⟩
  have G1 : Gr w w1 := (by repeat(first|exact Gr.r _|refine Gr.a ?_|refine Gr.d ?_|refine Gr.t ?_ (by assumption)))
  go_wp2_with fail
  refine (HA.out _ G1).mono ?_
  rintro f2 w2 ⟨rfl, hg2⟩
  go_wp2
  go_ret
  exact ⟨rfl, G1.trans hg2⟩

theorem recordEncodes_lifted (os : Os) (started : os.Started) (H : Type) (enc : TypeId × Value -> H) :
  ReturnsInHanded {} Tryz.checked os 4 .any (fun w args => (Rows.recordEncodesSpec.pre enc Tryz.prog Tryz.f4 [] false w args /\ laidMetH Tryz.prog laidL w) /\ sizedMet enc Tryz.prog Tryz.f4 (OpenSpec.ofChange Rows.recordEncodesSpec) false w args)
   (Rows.recordEncodesSpec.post enc Tryz.prog Tryz.f4 false true false false) := by
 refine returnsInHanded_of_change_and (C := Tryz.checked) (X := fun w _ => laidMetH Tryz.prog laidL w) (fun _ _ _ hh h => h.of_heap hh) own2 started (by kernel_rfl) Tryz.func4
  (ChangeSpec.witness_shaped (enc := enc) (C := Tryz.checked) (os := os) (X := fun w _ => laidMetH Tryz.prog laidL w) false (World.doorLaid Tryz.prog 400 os) #[.agg #[.int .i64 0, .int .i64 0, .int .i64 0, .int .i64 0, .slice none 0 0, .int .i64 0, .int .i64 0, .string ⟨#[]⟩, .slice none 0 0, .string ⟨#[]⟩, .int .i64 0, .string ⟨#[]⟩, .slice none 0 0, .string ⟨#[]⟩]] 8 rfl (World.shaped_of_RefB (by kernel_rfl) (by kernel_rfl)) (by kernel_rfl) (by kernel_rfl) (by kernel_rfl) (door_met os _)) ?_
 intro W base args ds gs before hval0 hW _ hsz0 hL _
 have hval : ∀ (j : Nat) t v, Tryz.f4.params[j]? = some t -> args[j]? = some v -> Value.okWide Tryz.prog W .any base t v := hval0
 have hsz : (DataW.weightsEach Tryz.prog (Tryz.f4.params.toList ++ Rows.recordEncodesSpec.plain.varTypes Tryz.prog) (ds ++ gs)).all (· <= reachBytes) = true := hsz0
 have hW' := hW
 obtain ⟨p, q, hA0, hV, rfl, hfz, hnd⟩ := hW
 have hA : DataW.TrodAll enc Tryz.prog W 0 (fun _ => true) true Tryz.f4.params.toList args.toList ds p := hA0
 rw [Tryz.params4] at hA hval hsz
 obtain ⟨v0, d0, rfl, rfl, h0⟩ := trodAll_one hA
 obtain ⟨rfl, rfl⟩ := trodVars_none hV
 have k0 := h0
 have lt0 : ∀ x ∈ p, x.block < W.heap.size := by obtain ⟨m, hm⟩ := k0; exact DataW.trod_lt m _ _ _ hm
 obtain ⟨x0, u0, f0, y0, g0, z0, i0, rfl, hI0⟩ := open_rec (hval 0 31 v0 rfl rfl) h0
 clear hA0 hval0
 have hT := env_of_laid hL
 refine (recordEncodes_walk x0.k x0.m.k x0.m.r x0.m.n x0.m.L x0.m.s x0.m.y x0.m.d x0.m.S x0.a x0.v x0.d x0.S x0.t u0 f0 y0 g0 z0 i0 W hT hI0).mono fun e W' ⟨he, hg⟩ => ?_
 subst he
 exact ⟨_, rfl, _, _, _, [], _, [], hW', trodAll_mk1 (shut_bool Tryz.underlying4 _), trodAll_mk1 (Below.trod laidOut2 (by kernel_rfl) (of_decide_eq_true (by kernel_rfl)) k0 hg.below lt0), rfl, hg.below.frame _, fun h => by cases h⟩

theorem recordEncodes_holds : Rows.RecordEncodesSaid :=
 OpenClaim.holds_of_wide 4 Tryz.f4 rfl rfl rfl rfl rfl rfl rfl ⟨rfl, rfl, rfl, rfl, rfl⟩ rfl rfl rfl rfl rfl (by kernel_rfl) Tryz.func4 (by kernel_rfl)
  (of_decide_eq_true (by kernel_rfl)) (by unfold Func.isWrapper; first | (rw [if_pos (by decide +kernel)]; kernel_rfl) | (rw [if_neg (by decide +kernel)]; exact ⟨rfl, rfl⟩))
  (fun os started H enc _ => recordEncodes_lifted os started H enc)

theorem recordEncodes_card_holds : Rows.RecordEncodesCardSaid :=
 Claim7.holds_tied_plain_at .later [] [.data, .data, .data, .sentinel, .sentinel, .data] true (true, "5e01d08355a620625b7217d8cd0ac96b317f0158d9cea4c397742b982576dae0") true
  recordEncodes_holds (fun _ h => by cases h) (by kernel_rfl) (fun _ h => by cases h) recordEncodes_row_tie rfl ⟨rfl, rfl⟩ (by kernel_rfl) rfl
  (fun f fn hf hfn => by
   obtain rfl : f = 4 := Option.some.inj ((show Tryz.prog.funcNamed "entente/ententelaw14.RecordEncodes" = some 4 by kernel_rfl).symm.trans hf) |>.symm
   obtain rfl : fn = Tryz.f4 := (Option.some.inj (Tryz.func4.symm.trans hfn)).symm
   exact ⟨by kernel_rfl, fun j t ht => by
    rw [Tryz.params4] at ht
    have hm : t ∈ [31] := by simpa using Array.mem_of_getElem? ht
    have hall : ([31].all fun u => !Tryz.prog.wantsStandIn u) = true := by kernel_rfl
    exact (show Tryz.prog.wantsStandIn t = false by simpa using List.all_eq_true.1 hall t hm)⟩)
  (by kernel_rfl)
end Go.Proofs.YthaadiclopoamaaGreatDoor
