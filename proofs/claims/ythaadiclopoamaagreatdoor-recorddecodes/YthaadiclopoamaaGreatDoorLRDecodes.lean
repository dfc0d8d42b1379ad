/- For every input the law RecordDecodes answers true: any bytes are the document's record, or none. -/
import Derived.Test.YthaadiclopoamaaGreatDoorGBA
import Derived.Test.YthaadiclopoamaaGreatDoorGV
import Derived.Test.YthaadiclopoamaaGreatDoorGBT
import Derived.Test.YthaadiclopoamaaGreatDoorGBW
import Derived.SevenTiedAt
set_option maxRecDepth 100000
set_option maxHeartbeats 8000000
namespace Go.Proofs.YthaadiclopoamaaGreatDoor
open Go.ChangeShapes Go.WideShapes Go.ChangeAt Go.RowKit
open Go.ChangeMaps (open_string shut_string)
open Df (Stp)
theorem recordDecodes_walk (u : ByteArray) (w : World) (he : EnvR w) (hu : u.size <= 140737488355328) :
  Calls Tryz.prog 5 #[.string u] w fun e w' => e = .returned (.bool true) /\ Gr w w' := by
 have HA : Hid (∀ w', Gr w w' -> Calls Tryz.prog 9 #[] w' fun e w2 => e = .returned (.bool true) /\ Gr w' w2) := fun w' g => awake_any w' (he.gr g)
 by_cases h6 : (60000 : Int) < (u.size : Int)
 ·clear he hu
  go_enter Tryz.func5, Tryz.ntmps5
  go_wp2_with fail
  refine (HA.out _ ?_).mono ?_
  ·exact (by repeat(first|exact Gr.r _|refine Gr.a ?_|refine Gr.d ?_|refine Gr.t ?_ (by assumption)))
  rintro f1 w1 ⟨rfl, hg1⟩
  go_wp2
  go_ret
  exact ⟨rfl, (by repeat(first|exact Gr.r _|refine Gr.a ?_|refine Gr.d ?_|refine Gr.t ?_ (by assumption)))⟩
 have H1 : Hid (∀ w', Gr w w' -> Calls Tryz.prog 18 #[.string u] w' fun e w2 => ∃ a1 c1 a2 c2 a3 c3, e = .returned (.tuple #[.agg #[.int .i64 (Rc.dcR u.data.toList).k, .int .i64 (Rc.dcR u.data.toList).m.k, .int .i64 (Rc.dcR u.data.toList).m.r, .int .i64 (Rc.dcR u.data.toList).m.n, .slice a1 (Rc.dcR u.data.toList).m.L.length c1, .int .i64 (Rc.dcR u.data.toList).m.s, .int .i64 (Rc.dcR u.data.toList).m.y, .string (Rc.dcR u.data.toList).m.d, .slice a2 (Rc.dcR u.data.toList).m.S.length c2, .string (Rc.dcR u.data.toList).a, .int .i64 (Rc.dcR u.data.toList).v, .string (Rc.dcR u.data.toList).d, .slice a3 (Rc.dcR u.data.toList).S.length c3, .string (Rc.dcR u.data.toList).t], .int .i64 (Rc.dcE u.data.toList)]) /\ RcIn w2 (Rc.dcR u.data.toList) a1 c1 a2 c2 a3 c3 /\ Gr w' w2) := fun w' g => decR_any u w' hu (he.frm.gr g) (he.env.gr g)
 have H2 : Hid (∀ w', Gr w w' -> Calls Tryz.prog 19 #[.string u] w' fun e w2 => ∃ a1 c1 a2 c2 a3 c3, e = .returned (.tuple #[.agg #[.int .i64 (Rc.dcR u.data.toList).k, .int .i64 (Rc.dcR u.data.toList).m.k, .int .i64 (Rc.dcR u.data.toList).m.r, .int .i64 (Rc.dcR u.data.toList).m.n, .slice a1 (Rc.dcR u.data.toList).m.L.length c1, .int .i64 (Rc.dcR u.data.toList).m.s, .int .i64 (Rc.dcR u.data.toList).m.y, .string (Rc.dcR u.data.toList).m.d, .slice a2 (Rc.dcR u.data.toList).m.S.length c2, .string (Rc.dcR u.data.toList).a, .int .i64 (Rc.dcR u.data.toList).v, .string (Rc.dcR u.data.toList).d, .slice a3 (Rc.dcR u.data.toList).S.length c3, .string (Rc.dcR u.data.toList).t], .int .i64 (Rc.dcE u.data.toList)]) /\ RcIn w2 (Rc.dcR u.data.toList) a1 c1 a2 c2 a3 c3 /\ Gr w' w2) := fun w' g => qdec_any u w' hu
 generalize Rc.dcE u.data.toList = CE at *
 generalize Rc.dcR u.data.toList = X at *
 obtain ⟨k, ⟨mk, r, n, mL, s2, y, md, T⟩, a, v, d, S, t⟩ := X
 simp only at H1 H2
 have H3 : Hid (∀ (w' : World) (a1 : Option Addr) (c1 : Nat) (a2 : Option Addr) (c2 : Nat) (a3 : Option Addr) (c3 : Nat) (b1 : Option Addr) (f1 : Nat) (b2 : Option Addr) (f2 : Nat) (b3 : Option Addr) (f3 : Nat), RcIn w' (⟨k, ⟨mk, r, n, mL, s2, y, md, T⟩, a, v, d, S, t⟩ : Rc) a1 c1 a2 c2 a3 c3 -> RcIn w' (⟨k, ⟨mk, r, n, mL, s2, y, md, T⟩, a, v, d, S, t⟩ : Rc) b1 f1 b2 f2 b3 f3 -> Calls Tryz.prog 20 #[.agg #[.int .i64 k, .int .i64 mk, .int .i64 r, .int .i64 n, .slice a1 mL.length c1, .int .i64 s2, .int .i64 y, .string md, .slice a2 T.length c2, .string a, .int .i64 v, .string d, .slice a3 S.length c3, .string t], .agg #[.int .i64 k, .int .i64 mk, .int .i64 r, .int .i64 n, .slice b1 mL.length f1, .int .i64 s2, .int .i64 y, .string md, .slice b2 T.length f2, .string a, .int .i64 v, .string d, .slice b3 S.length f3, .string t]] w' fun e w2 => e = .returned (.bool true) /\ Gr w' w2) := by
  intro w' a1 c1 a2 c2 a3 c3 b1 f1 b2 f2 b3 f3 i1 i2
  have := sameR_any k mk r n mL s2 y md T a v d S t k mk r n mL s2 y md T a v d S t a1 c1 a2 c2 a3 c3 b1 f1 b2 f2 b3 f3 w' i1 i2
  rw [(eqR_iff _ _).2 rfl] at this
  exact this
 have q1 : (CE == CE) = true := by simp
 clear he hu
 go_enter Tryz.func5, Tryz.ntmps5
 go_wp2_with fail
 refine (H1.out _ ?_).mono ?_
 ·exact (by repeat(first|exact Gr.r _|refine Gr.a ?_|refine Gr.d ?_|refine Gr.t ?_ (by assumption)))
 rintro g1' w1 ⟨a1, c1, a2, c2, a3, c3, rfl, i1, hg1⟩
 have G1 : Gr w w1 := (by repeat(first|exact Gr.r _|refine Gr.a ?_|refine Gr.d ?_|refine Gr.t ?_ (by assumption)))
 have I1 := Lib.hid i1
 clear i1 hg1
 go_wp2_with fail
 refine (H2.out _ G1.alloc).mono ?_
 rintro g2' w2 ⟨b1, f1, b2, f2, b3, f3, rfl, i2, hg2⟩
 have G2 : Gr w w2 := G1.alloc.trans hg2
 have I2 := Lib.hid (I1.out.gr ((Gr.refl _).alloc.trans hg2))
 have J2 := Lib.hid i2
 have B2 := (Cs.new w1 _ _ _ rfl).gr hg2
 clear i2 hg2
 obtain ⟨x0', x1', x2', x3', x4', x5', x6', x7', x8', x9', x10', x11', x12', x13', xlt⟩ := B2.c14
 go_wp2_with fail
 refine (H3.out _ _ _ _ _ _ _ _ _ _ _ _ _ (I2.out.gr (Gr.refl _).alloc) (J2.out.gr (Gr.refl _).alloc)).mono ?_
 rintro g3' w3 ⟨rfl, hg3⟩
 have G3 : Gr w w3 := G2.alloc.trans hg3
 go_wp2_with fail
 refine (HA.out _ G3).mono ?_
 rintro g4' w4 ⟨rfl, hg4⟩
 go_wp2
 go_ret
 exact ⟨rfl, G3.trans hg4⟩

theorem recordDecodes_lifted (os : Os) (started : os.Started) (H : Type) (enc : TypeId × Value -> H) :
  ReturnsInHanded {} Tryz.checked os 5 .any (fun w args => (Rows.recordDecodesSpec.pre enc Tryz.prog Tryz.f5 [] false w args /\ laidMetH Tryz.prog laidL w) /\ sizedMet enc Tryz.prog Tryz.f5 (OpenSpec.ofChange Rows.recordDecodesSpec) false w args)
   (Rows.recordDecodesSpec.post enc Tryz.prog Tryz.f5 false true false false) := by
 refine returnsInHanded_of_change_and (C := Tryz.checked) (X := fun w _ => laidMetH Tryz.prog laidL w) (fun _ _ _ hh h => h.of_heap hh) own2 started (by kernel_rfl) Tryz.func5
  (ChangeSpec.witness_shaped (enc := enc) (C := Tryz.checked) (os := os) (X := fun w _ => laidMetH Tryz.prog laidL w) false (World.doorLaid Tryz.prog 400 os) #[.string ⟨#[]⟩] 8 rfl (World.shaped_of_RefB (by kernel_rfl) (by kernel_rfl)) (by kernel_rfl) (by kernel_rfl) (by kernel_rfl) (door_met os _)) ?_
 intro W base args ds gs before hval0 hW _ hsz0 hL _
 have hval : ∀ (j : Nat) t v, Tryz.f5.params[j]? = some t -> args[j]? = some v -> Value.okWide Tryz.prog W .any base t v := hval0
 have hsz : (DataW.weightsEach Tryz.prog (Tryz.f5.params.toList ++ Rows.recordDecodesSpec.plain.varTypes Tryz.prog) (ds ++ gs)).all (· <= reachBytes) = true := hsz0
 have hW' := hW
 obtain ⟨p, q, hA0, hV, rfl, hfz, hnd⟩ := hW
 have hA : DataW.TrodAll enc Tryz.prog W 0 (fun _ => true) true Tryz.f5.params.toList args.toList ds p := hA0
 rw [Tryz.params5] at hA hval hsz
 obtain ⟨v0, d0, rfl, rfl, h0⟩ := trodAll_one hA
 obtain ⟨rfl, rfl⟩ := trodVars_none hV
 obtain ⟨a0, rfl, rfl, rfl, wa0⟩ := open_string Tryz.underlying9 (hval 0 9 v0 rfl rfl) h0
 have hr0 : a0.size <= 140737488355328 := by
  have hr := sized_string hsz (j := 0) (t := 9) rfl rfl
  have : a0.data.toList.length = a0.size := by simp
  simp only [reachBytes] at hr
  omega
 clear hA0 hval0
 have hT := env_of_laid hL
 refine (recordDecodes_walk a0 W hT hr0).mono fun e W' ⟨he, hg⟩ => ?_
 subst he
 exact ⟨_, rfl, _, _, _, [], _, [], hW', trodAll_mk1 (shut_bool Tryz.underlying4 _), trodAll_mk1 (shut_string Tryz.underlying9 wa0), rfl, hg.below.frame _, fun h => by cases h⟩

theorem recordDecodes_holds : Rows.RecordDecodesSaid :=
 OpenClaim.holds_of_wide 5 Tryz.f5 rfl rfl rfl rfl rfl rfl rfl ⟨rfl, rfl, rfl, rfl, rfl⟩ rfl rfl rfl rfl rfl (by kernel_rfl) Tryz.func5 (by kernel_rfl)
  (of_decide_eq_true (by kernel_rfl)) (by unfold Func.isWrapper; first | (rw [if_pos (by decide +kernel)]; kernel_rfl) | (rw [if_neg (by decide +kernel)]; exact ⟨rfl, rfl⟩))
  (fun os started H enc _ => recordDecodes_lifted os started H enc)

theorem recordDecodes_card_holds : Rows.RecordDecodesCardSaid :=
 Claim7.holds_tied_plain_at .later [] [.data, .data, .data, .sentinel, .sentinel, .data] true (true, "5e01d08355a620625b7217d8cd0ac96b317f0158d9cea4c397742b982576dae0") true
  recordDecodes_holds (fun _ h => by cases h) (by kernel_rfl) (fun _ h => by cases h) recordDecodes_row_tie rfl ⟨rfl, rfl⟩ (by kernel_rfl) rfl
  (fun f fn hf hfn => by
   obtain rfl : f = 5 := Option.some.inj ((show Tryz.prog.funcNamed "entente/ententelaw14.RecordDecodes" = some 5 by kernel_rfl).symm.trans hf) |>.symm
   obtain rfl : fn = Tryz.f5 := (Option.some.inj (Tryz.func5.symm.trans hfn)).symm
   exact ⟨by kernel_rfl, fun j t ht => by
    rw [Tryz.params5] at ht
    have hm : t ∈ [9] := by simpa using Array.mem_of_getElem? ht
    have hall : ([9].all fun u => !Tryz.prog.wantsStandIn u) = true := by kernel_rfl
    exact (show Tryz.prog.wantsStandIn t = false by simpa using List.all_eq_true.1 hall t hm)⟩)
  (by kernel_rfl)
end Go.Proofs.YthaadiclopoamaaGreatDoor
