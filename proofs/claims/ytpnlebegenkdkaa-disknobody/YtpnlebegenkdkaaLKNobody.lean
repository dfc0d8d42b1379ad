
/- For every act: disks that no call made (none, and an empty one) have no files, and each call that answers an error answers that there is none (DiskNobody, P15.1); no condition. -/
import Derived.Test.YtpnlebegenkdkaaOpenK
import Derived.Test.YtpnlebegenkdkaaDkW
import Derived.Test.YtpnlebegenkdkaaDkO
namespace Go.Proofs.Ytpnlebegenkdkaa
open Go.ChangeShapes Go.WideShapes Go.ChangeAt Go.RowKit
open Go.ChangeMaps (open_string shut_string)
set_option maxHeartbeats 16000000 in
set_option maxRecDepth 100000 in
theorem diskNobody_walk (x : Ac) (w : World) : Calls Try.prog 5 #[.agg #[.int .i64 x.k, .int .i64 x.n, .int .i64 x.z, .string x.d, .slice x.ka x.K.length x.kc]] w fun e w' => e = .returned (.bool true) ∧ Gr w w' := by
  have HAw : Hid (∀ w', Calls Try.prog 10 #[] w' fun e w2 => e = .returned (.bool true) ∧ Gr w' w2) := fun w' => awake_any w'
  have H0 : Hid (∀ w' v, Nob w' v → Calls Try.prog 17 #[v, .int .i64 x.n] w' fun e w2 => e = .returned (.tuple #[.string ⟨#[]⟩, .int .i64 1]) ∧ Gr w' w2) := fun w' v h => noRead v h x.n
  have H1 : Hid (∀ w' v, Nob w' v → Calls Try.prog 18 #[v, .int .i64 x.n, .string x.d] w' fun e w2 => e = .returned (.int .i64 1) ∧ Gr w' w2) := fun w' v h => noAppend v h x.n x.d
  have H2 : Hid (∀ w' v, Nob w' v → Calls Try.prog 19 #[v, .int .i64 x.n] w' fun e w2 => e = .returned (.int .i64 1) ∧ Gr w' w2) := fun w' v h => noSync v h x.n
  have H3 : Hid (∀ w' v, Nob w' v → Calls Try.prog 20 #[v, .int .i64 x.n, .int .i64 x.z] w' fun e w2 => e = .returned (.int .i64 1) ∧ Gr w' w2) := fun w' v h => noCut v h x.n x.z
  have H4 : Hid (∀ w' v, Nob w' v → Calls Try.prog 21 #[v, .int .i64 x.n] w' fun e w2 => e = .returned (.int .i64 1) ∧ Gr w' w2) := fun w' v h => noRemove v h x.n
  have H5 : Hid (∀ w' v, Nob w' v → Calls Try.prog 22 #[v, .int .i64 x.z, .slice none 0 0] w' fun e w2 => e = .returned (.int .i64 1) ∧ Gr w' w2) := fun w' v h => noArm v h x.z
  have H6 : Hid (∀ w' v, Nob w' v → Calls Try.prog 23 #[v, .slice none 0 0] w' fun e w2 => e = .returned (.int .i64 1) ∧ Gr w' w2) := fun w' v h => noCrash v h
  have H7 : Hid (∀ w' v, Nob w' v → Calls Try.prog 24 #[v] w' fun e w2 => e = .returned (.int .i64 1) ∧ Gr w' w2) := fun w' v h => noBoot v h
  have H8 : Hid (∀ w' v, Nob w' v → Calls Try.prog 25 #[v] w' fun e w2 => e = .returned (.bool false) ∧ Gr w' w2) := fun w' v h => noDead v h
  have H9 : Hid (∀ w' v, Nob w' v → Calls Try.prog 26 #[v] w' fun e w2 => e = .returned (.int .i64 0) ∧ Gr w' w2) := fun w' v h => noUsed v h
  have H10 : Hid (∀ w' v, Nob w' v → Calls Try.prog 27 #[v] w' fun e w2 => e = .returned (.slice none 0 0) ∧ Gr w' w2) := fun w' v h => noFiles v h
  have H11 : Hid (∀ w' v, Nob w' v → Calls Try.prog 28 #[v] w' fun e w2 => e = .returned (.slice none 0 0) ∧ Gr w' w2) := fun w' v h => noImage v h
  obtain ⟨xk, xn, xz, xd, xa, xc, xK⟩ := x
  simp only at *
  go_enter Try.func5, Try.ntmps5
  go_wp2
  generalize hW : (((w.alloc _).alloc _).alloc _) = W
  have hg0 : Gr w W := by rw [← hW]; exact (Gr.refl w).alloc.alloc.alloc
  have hx1 : W.cell? ⟨w.heap.size, 1, none⟩ = some (.int .i64 xn) := by rw [← hW]; simp [go_sem]
  have hx2 : W.cell? ⟨w.heap.size, 2, none⟩ = some (.int .i64 xz) := by rw [← hW]; simp [go_sem]
  have hx3 : W.cell? ⟨w.heap.size, 3, none⟩ = some (.string xd) := by rw [← hW]; simp [go_sem]
  have hb0 : W.cell? ⟨w.heap.size + 1, 0, none⟩ = some (.map none) := by rw [← hW]; simp [go_sem]
  have hr0 : W.cell? ⟨w.heap.size + 1 + 1, 0, none⟩ = some nilP := by rw [← hW]; simp [go_sem]
  have hr1 : W.cell? ⟨w.heap.size + 1 + 1, 1, none⟩ = some (ptr (w.heap.size + 1)) := by rw [← hW]; simp [go_sem]
  have HG0 := Lib.hid hg0
  have HX : Hid (∀ w', Gr W w' → w'.cell? ⟨w.heap.size, 1, none⟩ = some (.int .i64 xn) ∧ w'.cell? ⟨w.heap.size, 2, none⟩ = some (.int .i64 xz) ∧ w'.cell? ⟨w.heap.size, 3, none⟩ = some (.string xd)) := fun w' g => ⟨g.keep hx1, g.keep hx2, g.keep hx3⟩
  have HR : Hid (∀ w', Gr W w' → w'.cell? ⟨w.heap.size + 1 + 1, 0, none⟩ = some nilP ∧ w'.cell? ⟨w.heap.size + 1 + 1, 1, none⟩ = some (ptr (w.heap.size + 1))) := fun w' g => ⟨g.keep hr0, g.keep hr1⟩
  have HNb : Hid (∀ w', Gr W w' → Nob w' (ptr (w.heap.size + 1))) := fun w' g => Or.inr ⟨_, rfl, g.keep hb0⟩
  have HNn : Hid (∀ w', Gr W w' → Nob w' nilP) := fun w' g => Or.inl rfl
  clear hx1 hx2 hx3 hb0 hr0 hr1 hg0
  clear hW
  generalize w.heap.size = g0 at *
  go_loopw [11] (fun i wr => ∃ k : Nat, k ≤ 2 ∧ i = .int .i64 (k : Int) ∧ Gr W wr) (fun i _ => 2 - (intOf i).toNat)
  case atStart => exact ⟨0, by omega, rfl, Gr.refl W⟩
  case round =>
    obtain ⟨k, hk, rfl, hg⟩ := hrel
    rcases (by omega : k = 0 ∨ k = 1 ∨ k = 2) with h0 | h1 | h2
    · subst h0
      have G0 := Lib.hid hg
      obtain ⟨r0, r1⟩ := HR.out _ hg
      obtain ⟨c1, c2, c3⟩ := HX.out _ hg
      clear hg
      go_wp2_with fail
      refine (H0.out _ _ (HNn.out _ G0.out)).mono ?_
      rintro e w1 ⟨rfl, hg⟩
      have G1 := Lib.hid (G0.out.trans hg)
      clear hg c1 c2 c3 r0 r1 G0
      obtain ⟨c1, c2, c3⟩ := HX.out _ G1.out
      go_wp2_with fail
      refine (H1.out _ _ (HNn.out _ G1.out)).mono ?_
      rintro e w2 ⟨rfl, hg⟩
      have G2 := Lib.hid (G1.out.trans hg)
      clear hg c1 c2 c3 G1
      obtain ⟨c1, c2, c3⟩ := HX.out _ G2.out
      go_wp2_with fail
      refine (H2.out _ _ (HNn.out _ G2.out)).mono ?_
      rintro e w3 ⟨rfl, hg⟩
      have G3 := Lib.hid (G2.out.trans hg)
      clear hg c1 c2 c3 G2
      obtain ⟨c1, c2, c3⟩ := HX.out _ G3.out
      go_wp2_with fail
      refine (H3.out _ _ (HNn.out _ G3.out)).mono ?_
      rintro e w4 ⟨rfl, hg⟩
      have G4 := Lib.hid (G3.out.trans hg)
      clear hg c1 c2 c3 G3
      obtain ⟨c1, c2, c3⟩ := HX.out _ G4.out
      go_wp2_with fail
      refine (H4.out _ _ (HNn.out _ G4.out)).mono ?_
      rintro e w5 ⟨rfl, hg⟩
      have G5 := Lib.hid (G4.out.trans hg)
      clear hg c1 c2 c3 G4
      obtain ⟨c1, c2, c3⟩ := HX.out _ G5.out
      go_wp2_with fail
      refine (H5.out _ _ (HNn.out _ G5.out)).mono ?_
      rintro e w6 ⟨rfl, hg⟩
      have G6 := Lib.hid (G5.out.trans hg)
      clear hg c1 c2 c3 G5
      obtain ⟨c1, c2, c3⟩ := HX.out _ G6.out
      go_wp2_with fail
      refine (H6.out _ _ (HNn.out _ G6.out)).mono ?_
      rintro e w7 ⟨rfl, hg⟩
      have G7 := Lib.hid (G6.out.trans hg)
      clear hg c1 c2 c3 G6
      obtain ⟨c1, c2, c3⟩ := HX.out _ G7.out
      go_wp2_with fail
      refine (H7.out _ _ (HNn.out _ G7.out)).mono ?_
      rintro e w8 ⟨rfl, hg⟩
      have G8 := Lib.hid (G7.out.trans hg)
      clear hg G7
      go_wp2_with fail
      refine (H8.out _ _ (HNn.out _ G8.out)).mono ?_
      rintro e w9 ⟨rfl, hg⟩
      have G9 := Lib.hid (G8.out.trans hg)
      clear hg G8
      go_wp2_with fail
      refine (H9.out _ _ (HNn.out _ G9.out)).mono ?_
      rintro e w10 ⟨rfl, hg⟩
      have G10 := Lib.hid (G9.out.trans hg)
      clear hg G9
      go_wp2_with fail
      refine (H10.out _ _ (HNn.out _ G10.out)).mono ?_
      rintro e w11 ⟨rfl, hg⟩
      have G11 := Lib.hid (G10.out.trans hg)
      clear hg G10
      go_wp2_with fail
      refine (H11.out _ _ (HNn.out _ G11.out)).mono ?_
      rintro e w12 ⟨rfl, hg⟩
      have G12 := Lib.hid (G11.out.trans hg)
      clear hg G11
      go_wp2
      go_roundw
      case rel => exact ⟨0 + 1, by omega, by simp, G12.out⟩
      case measure => simp [intOf]
    · subst h1
      have G0 := Lib.hid hg
      obtain ⟨r0, r1⟩ := HR.out _ hg
      obtain ⟨c1, c2, c3⟩ := HX.out _ hg
      clear hg
      go_wp2_with fail
      refine (H0.out _ _ (HNb.out _ G0.out)).mono ?_
      rintro e w1 ⟨rfl, hg⟩
      have G1 := Lib.hid (G0.out.trans hg)
      clear hg c1 c2 c3 r0 r1 G0
      obtain ⟨c1, c2, c3⟩ := HX.out _ G1.out
      go_wp2_with fail
      refine (H1.out _ _ (HNb.out _ G1.out)).mono ?_
      rintro e w2 ⟨rfl, hg⟩
      have G2 := Lib.hid (G1.out.trans hg)
      clear hg c1 c2 c3 G1
      obtain ⟨c1, c2, c3⟩ := HX.out _ G2.out
      go_wp2_with fail
      refine (H2.out _ _ (HNb.out _ G2.out)).mono ?_
      rintro e w3 ⟨rfl, hg⟩
      have G3 := Lib.hid (G2.out.trans hg)
      clear hg c1 c2 c3 G2
      obtain ⟨c1, c2, c3⟩ := HX.out _ G3.out
      go_wp2_with fail
      refine (H3.out _ _ (HNb.out _ G3.out)).mono ?_
      rintro e w4 ⟨rfl, hg⟩
      have G4 := Lib.hid (G3.out.trans hg)
      clear hg c1 c2 c3 G3
      obtain ⟨c1, c2, c3⟩ := HX.out _ G4.out
      go_wp2_with fail
      refine (H4.out _ _ (HNb.out _ G4.out)).mono ?_
      rintro e w5 ⟨rfl, hg⟩
      have G5 := Lib.hid (G4.out.trans hg)
      clear hg c1 c2 c3 G4
      obtain ⟨c1, c2, c3⟩ := HX.out _ G5.out
      go_wp2_with fail
      refine (H5.out _ _ (HNb.out _ G5.out)).mono ?_
      rintro e w6 ⟨rfl, hg⟩
      have G6 := Lib.hid (G5.out.trans hg)
      clear hg c1 c2 c3 G5
      obtain ⟨c1, c2, c3⟩ := HX.out _ G6.out
      go_wp2_with fail
      refine (H6.out _ _ (HNb.out _ G6.out)).mono ?_
      rintro e w7 ⟨rfl, hg⟩
      have G7 := Lib.hid (G6.out.trans hg)
      clear hg c1 c2 c3 G6
      obtain ⟨c1, c2, c3⟩ := HX.out _ G7.out
      go_wp2_with fail
      refine (H7.out _ _ (HNb.out _ G7.out)).mono ?_
      rintro e w8 ⟨rfl, hg⟩
      have G8 := Lib.hid (G7.out.trans hg)
      clear hg G7
      go_wp2_with fail
      refine (H8.out _ _ (HNb.out _ G8.out)).mono ?_
      rintro e w9 ⟨rfl, hg⟩
      have G9 := Lib.hid (G8.out.trans hg)
      clear hg G8
      go_wp2_with fail
      refine (H9.out _ _ (HNb.out _ G9.out)).mono ?_
      rintro e w10 ⟨rfl, hg⟩
      have G10 := Lib.hid (G9.out.trans hg)
      clear hg G9
      go_wp2_with fail
      refine (H10.out _ _ (HNb.out _ G10.out)).mono ?_
      rintro e w11 ⟨rfl, hg⟩
      have G11 := Lib.hid (G10.out.trans hg)
      clear hg G10
      go_wp2_with fail
      refine (H11.out _ _ (HNb.out _ G11.out)).mono ?_
      rintro e w12 ⟨rfl, hg⟩
      have G12 := Lib.hid (G11.out.trans hg)
      clear hg G11
      go_wp2
      go_roundw
      case rel => exact ⟨1 + 1, by omega, by simp, G12.out⟩
      case measure => simp [intOf]
    · subst h2
      have G0 := Lib.hid (HG0.out.trans hg)
      clear hg
      go_wp2_with fail
      refine (HAw.out _).mono ?_
      rintro e w1 ⟨rfl, hg⟩
      have G1 := Lib.hid (G0.out.trans hg)
      clear hg
      go_wp2
      go_ret
      exact ⟨rfl, G1.out⟩

set_option maxRecDepth 100000 in
theorem diskNobody_lifted (os : Os) (started : os.Started) (H : Type) (enc : TypeId × Value → H) :
    ReturnsInHanded {} Try.checked os 5 .any (Rows.diskNobodySpec.pre6 enc Try.prog Try.f5 Rows.diskNobodyRow.domain false) (Rows.diskNobodySpec.post enc Try.prog Try.f5 false true false false) := by
  refine returnsInHanded_of_change (C := Try.checked) own2 started (by kernel_rfl) Try.func5
    (ChangeSpec.witness6 (enc := enc) (C := Try.checked) false ⟨#[], #[.agg #[.int .i64 0, .int .i64 0, .int .i64 0, .string ⟨#[]⟩, .slice none 0 0]], []⟩ 8 (by kernel_rfl) (by kernel_rfl) (by kernel_rfl) (by kernel_rfl)) ?_
  intro W base args ds gs before hval0 hW hcnd _
  have hval : ∀ (j : Nat) t v, Try.f5.params[j]? = some t → args[j]? = some v → Value.okWide Try.prog W .any base t v := hval0
  have hW' := hW
  obtain ⟨p, q, hA0, hV, rfl, hfz, hnd⟩ := hW
  have hA : DataW.TrodAll enc Try.prog W 0 (fun _ => true) true Try.f5.params.toList args.toList ds p := hA0
  rw [Try.params5] at hA hval
  obtain ⟨v0, d0, rfl, rfl, q0⟩ := trodAll_one hA
  obtain ⟨rfl, rfl⟩ := trodVars_none hV
  have k0 := q0
  have lt0 : ∀ x ∈ p, x.block < W.heap.size := by obtain ⟨m, hm⟩ := k0; exact DataW.trod_lt m _ _ _ hm
  obtain ⟨x0, rfl, hX0⟩ := open_kact (hval 0 35 v0 rfl rfl) q0
  clear hA0 hval0
  refine (diskNobody_walk x0 W).mono fun e W' ⟨he, hg⟩ => ?_
  subst he
  exact ⟨_, rfl, _, _, _, [], _, [], hW', trodAll_mk1 (shut_bool Try.underlying4 _), trodAll_mk1 (Below.trod laidOut2 (by kernel_rfl) (of_decide_eq_true (by kernel_rfl)) k0 hg.below lt0), rfl, hg.below.frame _, fun h => by cases h⟩

theorem diskNobody_holds : Rows.DiskNobodySaid :=
  OpenClaim.holds_of_wide 5 Try.f5 rfl rfl rfl rfl rfl rfl rfl ⟨rfl, rfl, rfl, rfl, rfl⟩ rfl rfl rfl rfl rfl (by kernel_rfl) Try.func5 (by kernel_rfl)
    (of_decide_eq_true (by kernel_rfl)) (by unfold Func.isWrapper; first | (rw [if_pos (by decide +kernel)]; kernel_rfl) | (rw [if_neg (by decide +kernel)]; exact ⟨rfl, rfl⟩))
    (fun os started H enc _ => diskNobody_lifted os started H enc)
end Go.Proofs.Ytpnlebegenkdkaa
