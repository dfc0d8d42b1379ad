/- For every act the law LinkNobody answers true: links that no call made do nothing; no condition. -/
import Derived.Test.YthfbpilfdfploaaGP
import Derived.Test.YthfbpilfdfploaaGQ
import Derived.Test.YthfbpilfdfploaaGL
namespace Go.Proofs.Ythfbpilfdfploaa
open Go.ChangeShapes Go.WideShapes Go.ChangeAt Go.RowKit

set_option maxHeartbeats 16000000 in
set_option maxRecDepth 100000 in
theorem linkNobody_walk (z : Ma) (w : World) :
    Calls Try.prog 3 #[.agg (aC z).toArray] w fun e w' => e = .returned (.bool true) ∧ Gr w w' := by
  have HA : Hid (∀ w', Calls Try.prog 13 #[] w' fun e w2 => AwR w' e w2) := fun w' => awake_any w'
  have HSm : Hid (∀ w', Calls Try.prog 8 #[.agg #[.int .i64 0, .int .i64 0, .int .i64 0, .slice none 0 0, .string ⟨#[]⟩, .int .i64 0], .agg #[.int .i64 0, .int .i64 0, .int .i64 0, .slice none 0 0, .string ⟨#[]⟩, .int .i64 0]] w' fun e w2 => e = .returned (.bool true) ∧ Gr w' w2) := fun w' => by
    have := rSameN2_any (Z := Any) ⟨Nt.zeroN, none, 0⟩ ⟨Nt.zeroN, none, 0⟩ w' (zero_mn _) (zero_mn _)
    rw [decide_eq_true rfl] at this
    exact this
  obtain ⟨zk, now, ⟨⟨k0, r0, n0, L0, s0, y0⟩, ax, cx⟩, ⟨ff, ft, fe, fs, fa, fc, ⟨⟨k5, r5, n5, L5, s5, y5⟩, ay, cy⟩⟩⟩ := z
  show Calls Try.prog 3 #[.agg #[.int .i64 zk, .int .i64 now, .int .i64 k0, .int .i64 r0, .int .i64 n0, .slice ax L0.length cx, .string s0, .int .i64 y0, .int .i64 ff, .int .i64 ft, .int .i64 fe, .int .i64 fs, .int .i64 fa, .int .i64 fc, .int .i64 k5, .int .i64 r5, .int .i64 n5, .slice ay L5.length cy, .string s5, .int .i64 y5]] w _
  generalize L0.length = ll
  generalize L5.length = lf
  obtain ⟨W3, hW3⟩ : ∃ x, x = (((w.alloc (.cells #[.int .i64 zk, .int .i64 now, .int .i64 k0, .int .i64 r0, .int .i64 n0, .slice ax ll cx, .string s0, .int .i64 y0, .int .i64 ff, .int .i64 ft, .int .i64 fe, .int .i64 fs, .int .i64 fa, .int .i64 fc, .int .i64 k5, .int .i64 r5, .int .i64 n5, .slice ay lf cy, .string s5, .int .i64 y5] 30)).alloc (.cells #[.int .i64 0, .int .i64 0, .int .i64 0, .slice none 0 0, .int .i64 0, .int .i64 0, .int .i64 0, .slice none 0 0, .bool false] 39)).alloc (.cells #[.pointer none, .pointer (some ⟨w.heap.size + 1, 0, none⟩)] 31)) := ⟨_, rfl⟩
  have hG3 : Gr w W3 := by rw [hW3]; exact (Gr.refl _).alloc.alloc.alloc
  have HX : Hid (Cs W3 w.heap.size [.int .i64 zk, .int .i64 now, .int .i64 k0, .int .i64 r0, .int .i64 n0, .slice ax ll cx, .string s0, .int .i64 y0, .int .i64 ff, .int .i64 ft, .int .i64 fe, .int .i64 fs, .int .i64 fa, .int .i64 fc, .int .i64 k5, .int .i64 r5, .int .i64 n5, .slice ay lf cy, .string s5, .int .i64 y5]) := by
    show Cs _ _ _
    rw [hW3]
    exact (Cs.new w [.int .i64 zk, .int .i64 now, .int .i64 k0, .int .i64 r0, .int .i64 n0, .slice ax ll cx, .string s0, .int .i64 y0, .int .i64 ff, .int .i64 ft, .int .i64 fe, .int .i64 fs, .int .i64 fa, .int .i64 fc, .int .i64 k5, .int .i64 r5, .int .i64 n5, .slice ay lf cy, .string s5, .int .i64 y5] 30 _ rfl).gr (Gr.refl _).alloc.alloc
  have hK : Cs W3 (w.heap.size + 1) [.int .i64 0, .int .i64 0, .int .i64 0, .slice none 0 0, .int .i64 0, .int .i64 0, .int .i64 0, .slice none 0 0, .bool false] := by
    rw [hW3]
    exact (Cs.new (w.alloc (.cells #[.int .i64 zk, .int .i64 now, .int .i64 k0, .int .i64 r0, .int .i64 n0, .slice ax ll cx, .string s0, .int .i64 y0, .int .i64 ff, .int .i64 ft, .int .i64 fe, .int .i64 fs, .int .i64 fa, .int .i64 fc, .int .i64 k5, .int .i64 r5, .int .i64 n5, .slice ay lf cy, .string s5, .int .i64 y5] 30)) [.int .i64 0, .int .i64 0, .int .i64 0, .slice none 0 0, .int .i64 0, .int .i64 0, .int .i64 0, .slice none 0 0, .bool false] 39 _ (by simp)).gr (Gr.refl _).alloc
  have hS : Cs W3 (w.heap.size + 1 + 1) [.pointer none, .pointer (some ⟨w.heap.size + 1, 0, none⟩)] := by
    rw [hW3]
    exact Cs.new ((w.alloc (.cells #[.int .i64 zk, .int .i64 now, .int .i64 k0, .int .i64 r0, .int .i64 n0, .slice ax ll cx, .string s0, .int .i64 y0, .int .i64 ff, .int .i64 ft, .int .i64 fe, .int .i64 fs, .int .i64 fa, .int .i64 fc, .int .i64 k5, .int .i64 r5, .int .i64 n5, .slice ay lf cy, .string s5, .int .i64 y5] 30)).alloc (.cells #[.int .i64 0, .int .i64 0, .int .i64 0, .slice none 0 0, .int .i64 0, .int .i64 0, .int .i64 0, .slice none 0 0, .bool false] 39)) [.pointer none, .pointer (some ⟨w.heap.size + 1, 0, none⟩)] 31 _ (by simp)
  have HP : Hid (∀ i : Nat, i < 2 → ∃ pv, W3.cell? ⟨w.heap.size + 1 + 1, i, none⟩ = some pv ∧ NoL pv W3) := by
    intro i hi
    match i, hi with
    | 0, _ => exact ⟨_, hS.at_ 0 _ rfl, Or.inl rfl⟩
    | 1, _ => exact ⟨_, hS.at_ 1 _ rfl, Or.inr ⟨_, rfl, hK.at_ 2 _ rfl⟩⟩
  have HSl : Hid (w.heap.size + 1 + 1 < W3.heap.size) := hS.lt
  have HG3 := Lib.hid hG3
  clear hG3 hK hS
  go_enter Try.func3, Try.ntmps3
  go_upto_region 2 with fail
  rw [← hW3]
  clear hW3
  go_loopw [12] (fun s12 wr => ∃ i : Nat, s12 = .int .i64 i ∧ i ≤ 2 ∧ Gr W3 wr) (fun s12 _ => 2 - (intOf s12).toNat)
  case atStart => exact ⟨0, rfl, by omega, Gr.refl _⟩
  case round =>
    obtain ⟨i, rfl, hi, hg⟩ := hrel
    have HG := Lib.hid hg
    by_cases hlt : i < 2
    · obtain ⟨pv, hc, hno⟩ := HP.out i hlt
      have hc := hg.keep hc
      have hcl := Nat.lt_of_lt_of_le HSl.out hg.size
      have HN := Lib.hid (hno.gr hg)
      have hi2 : (i : Int) < 2 := by omega
      have hi0 : (0 : Int) ≤ (i : Int) := by omega
      have HXr := Lib.hid (HX.out.gr hg)
      clear hno hg
      have x0 := HXr.out.at_ 0 _ rfl
      have x1 := HXr.out.at_ 1 _ rfl
      have x2 := HXr.out.at_ 2 _ rfl
      have x3 := HXr.out.at_ 3 _ rfl
      have x4 := HXr.out.at_ 4 _ rfl
      have x5 := HXr.out.at_ 5 _ rfl
      have x6 := HXr.out.at_ 6 _ rfl
      have x7 := HXr.out.at_ 7 _ rfl
      have x8 := HXr.out.at_ 8 _ rfl
      have x9 := HXr.out.at_ 9 _ rfl
      have x10 := HXr.out.at_ 10 _ rfl
      have x11 := HXr.out.at_ 11 _ rfl
      have x12 := HXr.out.at_ 12 _ rfl
      have x13 := HXr.out.at_ 13 _ rfl
      have x14 := HXr.out.at_ 14 _ rfl
      have x15 := HXr.out.at_ 15 _ rfl
      have x16 := HXr.out.at_ 16 _ rfl
      have x17 := HXr.out.at_ 17 _ rfl
      have x18 := HXr.out.at_ 18 _ rfl
      have x19 := HXr.out.at_ 19 _ rfl
      have xl := HXr.out.lt
      have HTk : Hid (∀ w', Gr wr w' → Calls Try.prog 6 #[pv, .agg #[.int .i64 ff, .int .i64 ft, .int .i64 fe, .int .i64 fs, .int .i64 fa, .int .i64 fc, .int .i64 k5, .int .i64 r5, .int .i64 n5, .slice ay lf cy, .string s5, .int .i64 y5], .int .i64 now] w' fun e w2 => e = .returned (.tuple #[.agg #[.int .i64 0, .int .i64 0, .int .i64 0, .slice none 0 0, .string ⟨#[]⟩, .int .i64 0], .bool false, .int .i64 1]) ∧ Gr w' w2) := fun w' g => no_take (HN.out.gr g) ff ft fe fs fa fc k5 r5 n5 lf ay cy s5 y5 now
      go_wp2_with fail
      refine (HTk.out _ (Gr.refl _)).mono ?_
      rintro e1 w1 ⟨rfl, hg1⟩
      have HG1 := Lib.hid hg1
      have x1 := hg1.keep x1
      have x2 := hg1.keep x2
      have x3 := hg1.keep x3
      have x4 := hg1.keep x4
      have x5 := hg1.keep x5
      have x6 := hg1.keep x6
      have x7 := hg1.keep x7
      have xl := Nat.lt_of_lt_of_le xl hg1.size
      clear hg1 x0 x8 x9 x10 x11 x12 x13 x14 x15 x16 x17 x18 x19 HTk hc hcl
      have HN1 := Lib.hid (HN.out.gr HG1.out)
      go_wp2_with fail
      refine (no_send (HN1.out.gr ?_) now _).mono ?_
      · exact (by repeat(first|exact Gr.r _|refine Gr.a ?_|refine Gr.d ?_|refine Gr.t ?_ (by assumption)))
      rintro e2 w2 ⟨rfl, hw2⟩; obtain rfl := hw2.symm
      clear hw2
      go_wp2_with fail
      refine (HSm.out _).mono ?_
      rintro e3 w3 ⟨rfl, hg3⟩
      have hg13 : Gr w1 w3 := (Gr.refl w1).alloc.alloc.trans hg3
      have x1 := hg13.keep x1
      have x2 := hg13.keep x2
      have x3 := hg13.keep x3
      have x4 := hg13.keep x4
      have x5 := hg13.keep x5
      have x6 := hg13.keep x6
      have x7 := hg13.keep x7
      have xl := Nat.lt_of_lt_of_le xl hg13.size
      have HN3 := Lib.hid (HN1.out.gr hg13)
      have HG3b := Lib.hid (HG1.out.trans hg13)
      clear hg3 hg13 HN1 HG1
      go_wp2_with fail
      refine (no_waits HN3.out k0 r0 n0 ll ax cx s0 y0).mono ?_
      rintro e4 w4 ⟨rfl, hg4⟩
      have x1 := hg4.keep x1
      have xl := Nat.lt_of_lt_of_le xl hg4.size
      have HN4 := Lib.hid (HN3.out.gr hg4)
      have HG4 := Lib.hid (HG3b.out.trans hg4)
      clear hg4 x2 x3 x4 x5 x6 x7 HN3 HG3b
      go_wp2_with fail
      refine (no_waiting HN4.out).mono ?_
      rintro e5 w5 ⟨rfl, hw5⟩; obtain rfl := hw5.symm
      clear hw5
      go_wp2_with fail
      refine (no_peer HN4.out).mono ?_
      rintro e6 w6 ⟨rfl, hw6⟩; obtain rfl := hw6.symm
      clear hw6
      go_wp2_with fail
      refine (no_tick HN4.out now).mono ?_
      rintro e7 w7 ⟨rfl, hw7⟩; obtain rfl := hw7.symm
      clear hw7
      go_wp2
      go_roundw
      case rel => exact ⟨i + 1, by go_num, by omega, HG.out.trans HG4.out⟩
      case measure => simp [intOf]; omega
    · have hi2 : ¬ (i : Int) < 2 := by omega
      clear hg
      go_wp2_with fail
      refine (HA.out _).mono ?_
      rintro e4 w4 ⟨rfl, hg4⟩
      go_wp2
      go_ret
      exact ⟨rfl, (HG3.out.trans HG.out).trans hg4⟩

set_option maxRecDepth 100000 in
theorem linkNobody_lifted (os : Os) (started : os.Started) (H : Type) (enc : TypeId × Value → H) :
    ReturnsInHanded {} Try.checked os 3 .any (Rows.linkNobodySpec.pre6 enc Try.prog Try.f3 Rows.linkNobodyRow.domain false) (Rows.linkNobodySpec.post enc Try.prog Try.f3 false true false false) := by
  refine returnsInHanded_of_change (C := Try.checked) own2 started (by kernel_rfl) Try.func3
    (ChangeSpec.witness6 (enc := enc) (C := Try.checked) false ⟨#[], #[.agg #[.int .i64 0, .int .i64 0, .int .i64 0, .int .i64 0, .int .i64 0, .slice none 0 0, .string ⟨#[]⟩, .int .i64 0, .int .i64 0, .int .i64 0, .int .i64 0, .int .i64 0, .int .i64 0, .int .i64 0, .int .i64 0, .int .i64 0, .int .i64 0, .slice none 0 0, .string ⟨#[]⟩, .int .i64 0]], []⟩ 8 (by kernel_rfl) (by kernel_rfl) (by kernel_rfl) (by kernel_rfl)) ?_
  intro W base args ds gs before hval0 hW hcnd _
  have hval : ∀ (j : Nat) t v, Try.f3.params[j]? = some t → args[j]? = some v → Value.okWide Try.prog W .any base t v := hval0
  have hW' := hW
  obtain ⟨p, q, hA0, hV, rfl, hfz, hnd⟩ := hW
  have hA : DataW.TrodAll enc Try.prog W 0 (fun _ => true) true Try.f3.params.toList args.toList ds p := hA0
  rw [Try.params3] at hA hval
  obtain ⟨v0, d0, rfl, rfl, q0⟩ := trodAll_one hA
  obtain ⟨rfl, rfl⟩ := trodVars_none hV
  have k0 := q0
  have lt0 : ∀ x ∈ p, x.block < W.heap.size := by obtain ⟨m, hm⟩ := k0; exact DataW.trod_lt m _ _ _ hm
  obtain ⟨z0, rfl, _, _⟩ := open_lact (hval 0 30 v0 rfl rfl) q0
  clear hA0 hval0
  refine (linkNobody_walk z0 W).mono fun e W' ⟨he, hg⟩ => ?_
  subst he
  exact ⟨_, rfl, _, _, _, [], _, [], hW', trodAll_mk1 (shut_bool Try.underlying4 _), trodAll_mk1 (Below.trod laidOut2 (by kernel_rfl) (of_decide_eq_true (by kernel_rfl)) k0 hg.below lt0), rfl, hg.below.frame _, fun h => by cases h⟩

theorem linkNobody_holds : Rows.LinkNobodySaid :=
  OpenClaim.holds_of_wide 3 Try.f3 rfl rfl rfl rfl rfl rfl rfl ⟨rfl, rfl, rfl, rfl, rfl⟩ rfl rfl rfl rfl rfl (by kernel_rfl) Try.func3 (by kernel_rfl)
    (of_decide_eq_true (by kernel_rfl)) (by unfold Func.isWrapper; first | (rw [if_pos (by decide +kernel)]; kernel_rfl) | (rw [if_neg (by decide +kernel)]; exact ⟨rfl, rfl⟩))
    (fun os started H enc _ => linkNobody_lifted os started H enc)
end Go.Proofs.Ythfbpilfdfploaa
