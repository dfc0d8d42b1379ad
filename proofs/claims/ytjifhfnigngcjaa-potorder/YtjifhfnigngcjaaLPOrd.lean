/- For every input the law PotOrder answers true: all that is pending undone, in either order, a pot has what it had at first, and what was kept, and nothing is pending. -/
import Derived.Test.YtjifhfnigngcjaaPotK
import Derived.Test.YtjifhfnigngcjaaPotL
import Derived.Test.YtjifhfnigngcjaaPotU
import Derived.Test.YtjifhfnigngcjaaOpenB
import Derived.Deep.DeepCutAuto
import Derived.BigRegion
namespace Go.Proofs.Ytjifhfnigngcjaa
open Go.ChangeShapes Go.WideShapes Go.ChangeAt Go.RowKit

set_option maxHeartbeats 8000000 in
set_option maxRecDepth 100000 in
theorem potOrder_walk (first : Int) (T : List Four) (ad : Option Addr) (cap : Nat) (w : World) (hT : ActsAt w ad T) (hn : T.length ≤ 9223372036854775807) :
    Calls Try.prog 7 #[.int .i64 first, .slice ad T.length cap] w fun e w' => e = .returned (.bool true) ∧ Gr w w' := by
  have HA : Hid (∀ w', Calls Try.prog 15 #[] w' fun e w2 => e = .returned (.bool true) ∧ Gr w' w2) := fun w' => awake_any w'
  by_cases hf0 : first < 0
  · clear hT
    go_enter Try.func7, Try.ntmps7
    go_wp2_with fail
    refine (HA.out _).mono ?_
    rintro e w1 ⟨rfl, hg1⟩
    go_wp2
    go_ret
    exact ⟨rfl, (by repeat (first | exact Gr.refl _ | refine Gr.alloc ?_ | refine Gr.drew ?_ | refine Gr.trans ?_ (by assumption)))⟩
  by_cases hf1 : 1000000000000000 < first
  · clear hT
    go_enter Try.func7, Try.ntmps7
    go_wp2_with fail
    refine (HA.out _).mono ?_
    rintro e w1 ⟨rfl, hg1⟩
    go_wp2
    go_ret
    exact ⟨rfl, (by repeat (first | exact Gr.refl _ | refine Gr.alloc ?_ | refine Gr.drew ?_ | refine Gr.trans ?_ (by assumption)))⟩
  by_cases hf2 : 300 < (T.length : Int)
  · clear hT
    go_enter Try.func7, Try.ntmps7
    go_wp2_with fail
    refine (HA.out _).mono ?_
    rintro e w1 ⟨rfl, hg1⟩
    go_wp2
    go_ret
    exact ⟨rfl, (by repeat (first | exact Gr.refl _ | refine Gr.alloc ?_ | refine Gr.drew ?_ | refine Gr.trans ?_ (by assumption)))⟩
  have HP : Hid (Calls Try.prog 24 #[.int .i64 first, .slice ad T.length cap] w fun e w' =>
      ∃ (h i o kept : Int) (O : List Four) (ad2 : Option Addr) (cap2 : Nat), e = .returned (.tuple #[.agg #[.int .i64 h, .int .i64 i, .int .i64 o], .slice ad2 O.length cap2, .int .i64 kept, .bool true]) ∧ O.length ≤ 300 ∧ ActsAt w' ad2 O ∧ Pot.Inv first h i o kept O ∧ Gr w w') := played_any first T ad cap w hT (by omega) (by omega) (by omega)
  clear hT
  go_enter Try.func7, Try.ntmps7
  go_wp2_with fail
  refine HP.out.mono ?_
  rintro e w1 ⟨h, i, o, kept, O, ad2, cap2, rfl, hOl, hOA, hinv, hg1⟩
  clear HP
  have HOA : Hid (ActsAt w1 ad2 O) := hOA
  have HG1 : Hid (Gr w w1) := hg1
  have HI : Hid (Pot.Inv first h i o kept O) := hinv
  clear hOA hinv hg1
  go_wp2

  go_loopw [10] (fun ix wr => ∃ (k : Nat) (hp ip op hq iq oq : Int), k ≤ O.length ∧ ix = .int .i64 k ∧ BoxAt wr w1.heap.size (.int .i64 hp) (.int .i64 ip) (.int .i64 op) ∧ BoxAt wr (w1.heap.size + 1) (.int .i64 hq) (.int .i64 iq) (.int .i64 oq) ∧ Pot.Inv first hp ip op kept (O.drop k) ∧ Pot.Inv first hq iq oq kept (O.take (O.length - k)) ∧ Gr w1 wr) (fun ix _ => O.length - (intOf ix).toNat)
  case atStart => exact ⟨0, h, i, o, h, i, o, by omega, rfl, (BoxAt.new w1 _ _ _ _ _ rfl).gr (Gr.refl _).alloc, BoxAt.new _ _ _ _ _ _ (by simp), HI.out, by rw [Nat.sub_zero, List.take_length]; exact HI.out, (by repeat (first | exact Gr.refl _ | refine Gr.alloc ?_ | refine Gr.drew ?_ | refine Gr.trans ?_ (by assumption)))⟩
  case round =>
    obtain ⟨k, hp, ip, op, hq, iq, oq, hk, rfl, hbp, hbq, hvp, hvq, hgr⟩ := hrel
    have HGR : Hid (Gr w1 wr) := hgr
    have HBP : Hid (BoxAt wr w1.heap.size (.int .i64 hp) (.int .i64 ip) (.int .i64 op)) := hbp
    have HBQ : Hid (BoxAt wr (w1.heap.size + 1) (.int .i64 hq) (.int .i64 iq) (.int .i64 oq)) := hbq
    by_cases hlt : k < O.length
    · obtain ⟨m, hm⟩ : ∃ m, O.length - k = m + 1 := ⟨O.length - k - 1, by omega⟩
      have hml : m < O.length := by omega
      have hmi : (O.length : Int) - 1 - (k : Int) = (m : Int) := by omega
      have hm2 : O.length - (k + 1) = m := by omega
      rw [hm] at hvq
      obtain ⟨hep, hvp2⟩ := hvp.front hlt
      obtain ⟨heq, hvq2⟩ := hvq.back hml
      obtain ⟨b, off, rfl, hbl, c0, c1, c2, c3⟩ := HOA.out k hlt
      obtain ⟨b', off', e', _, f0, f1, f2, f3⟩ := HOA.out m hml
      cases e'
      have d0 := hgr.keep c0
      have d1 := hgr.keep c1
      have d2 := hgr.keep c2
      have d3 := hgr.keep c3
      have f0 := hgr.keep f0
      have f1 := hgr.keep f1
      have f2 := hgr.keep f2
      have f3 := hgr.keep f3
      obtain ⟨⟨xk, xo, xa, xw⟩, hx⟩ : ∃ t, O[k] = t := ⟨_, rfl⟩
      obtain ⟨⟨yk, yo, ya, yw⟩, hy⟩ : ∃ t, O[m] = t := ⟨_, rfl⟩
      rw [hx] at d0 d1 d2 d3 hep hvp2
      rw [hy] at f0 f1 f2 f3 heq hvq2
      simp only at d0 d1 d2 d3 f0 f1 f2 f3 hep hvp2 heq hvq2
      have HUx : Hid (∀ w', Calls Try.prog 18 #[.agg #[.int .i64 hp, .int .i64 ip, .int .i64 op], .bool xo, .int .i64 xa] w' fun e w2 => e = .returned (.tuple #[.agg #[.int .i64 (Pot.sg xo (hp + xa) (hp - xa)), .int .i64 (Pot.sg xo ip (ip - xa)), .int .i64 (Pot.sg xo (op - xa) op)], .int .i64 0]) ∧ Gr w' w2) := fun w' => undo_yes hp ip op xa xo w' hep
      have HUy : Hid (∀ w', Calls Try.prog 18 #[.agg #[.int .i64 hq, .int .i64 iq, .int .i64 oq], .bool yo, .int .i64 ya] w' fun e w2 => e = .returned (.tuple #[.agg #[.int .i64 (Pot.sg yo (hq + ya) (hq - ya)), .int .i64 (Pot.sg yo iq (iq - ya)), .int .i64 (Pot.sg yo (oq - ya) oq)], .int .i64 0]) ∧ Gr w' w2) := fun w' => undo_yes hq iq oq ya yo w' heq
      have HVP : Hid (Pot.Inv first (Pot.sg xo (hp + xa) (hp - xa)) (Pot.sg xo ip (ip - xa)) (Pot.sg xo (op - xa) op) kept (O.drop (k + 1))) := hvp2
      have HVQ : Hid (Pot.Inv first (Pot.sg yo (hq + ya) (hq - ya)) (Pot.sg yo iq (iq - ya)) (Pot.sg yo (oq - ya) oq) kept (O.take (O.length - (k + 1)))) := by rw [hm2]; exact hvq2
      generalize Pot.sg xo (hp + xa) (hp - xa) = hp' at *
      generalize Pot.sg xo ip (ip - xa) = ip' at *
      generalize Pot.sg xo (op - xa) op = op' at *
      generalize Pot.sg yo (hq + ya) (hq - ya) = hq' at *
      generalize Pot.sg yo iq (iq - ya) = iq' at *
      generalize Pot.sg yo (oq - ya) oq = oq' at *
      have hbw : b < wr.heap.size := Nat.lt_of_lt_of_le hbl hgr.size
      have hki : (k : Int) < (O.length : Int) := by omega
      have hmj : (m : Int) < (O.length : Int) := by omega
      have hw1 : IntKind.i64.wrap ((O.length : Int) - 1) = (O.length : Int) - 1 := by rw [IntKind.wrap_i64]; omega
      have hw2 : IntKind.i64.wrap ((O.length : Int) - 1 - (k : Int)) = (m : Int) := by rw [IntKind.wrap_i64]; omega
      clear c0 c1 c2 c3 hx hy hep heq hvp2 hvq2 hvp hvq hm2 hm hmi hgr hbp hbq
      go_upto_region 10 with fail
      go_cut [11, 12] (fun sx sy wx => ∃ X Y : Nat, sx = .pointer (some ⟨X, 0, none⟩) ∧ sy = .pointer (some ⟨Y, 0, none⟩) ∧ wx.cell? ⟨X, 1, none⟩ = some (.bool xo) ∧ wx.cell? ⟨X, 2, none⟩ = some (.int .i64 xa) ∧ wx.cell? ⟨Y, 1, none⟩ = some (.bool yo) ∧ wx.cell? ⟨Y, 2, none⟩ = some (.int .i64 ya) ∧ Gr wr wx)
      case first =>
        go_region_held3 (fun w' => Gr wr w' ∧ w'.cell? ⟨b, off + k * 4, none⟩ = some (.int .i64 xk) ∧ w'.cell? ⟨b, off + k * 4 + 1, none⟩ = some (.bool xo) ∧ w'.cell? ⟨b, off + k * 4 + 2, none⟩ = some (.int .i64 xa) ∧ w'.cell? ⟨b, off + k * 4 + 3, none⟩ = some (.int .i64 xw) ∧ w'.cell? ⟨b, off + m * 4, none⟩ = some (.int .i64 yk) ∧ w'.cell? ⟨b, off + m * 4 + 1, none⟩ = some (.bool yo) ∧ w'.cell? ⟨b, off + m * 4 + 2, none⟩ = some (.int .i64 ya) ∧ w'.cell? ⟨b, off + m * 4 + 3, none⟩ = some (.int .i64 yw))
          ((exact hold8 (by (repeat' (first | with_reducible exact Gr.refl _ | with_reducible refine Gr.set ?_ _ ?_ _ | with_reducible refine Gr.alloc ?_ | with_reducible refine Gr.drew ?_ | with_reducible refine Gr.trans ?_ (by assumption))) <;> (first | (simp; done) | (simp; omega) | omega)) d0 d1 d2 d3 f0 f1 f2 f3))
          ((fail))
        all_goals go_wp2_with fail
        all_goals go_meet
        all_goals exact ⟨_, _, rfl, rfl, by simp [go_sem], by simp [go_sem], by simp [go_sem], by simp [go_sem], (by (repeat' (first | with_reducible exact Gr.refl _ | with_reducible refine Gr.set ?_ _ ?_ _ | with_reducible refine Gr.alloc ?_ | with_reducible refine Gr.drew ?_ | with_reducible refine Gr.trans ?_ (by assumption))) <;> (first | (simp; done) | (simp; omega) | omega))⟩
      case rest =>
      obtain ⟨wp, rfl⟩ : ∃ x, x = wc := ⟨_, rfl⟩
      obtain ⟨X, Y, rfl, rfl, x1, x2, y1, y2, hgc⟩ := hcut
      have HGP : Hid (Gr w1 wp) := HGR.out.trans hgc
      have HBP2 : Hid (BoxAt wp w1.heap.size (.int .i64 hp) (.int .i64 ip) (.int .i64 op)) := HBP.out.gr hgc
      have HBQ2 : Hid (BoxAt wp (w1.heap.size + 1) (.int .i64 hq) (.int .i64 iq) (.int .i64 oq)) := HBQ.out.gr hgc
      have hY : Y < wp.heap.size := World.block_lt_of_cell? wp _ y1
      have Y1 : Hid (wp.cell? ⟨Y, 1, none⟩ = some (.bool yo)) := y1
      have Y2 : Hid (wp.cell? ⟨Y, 2, none⟩ = some (.int .i64 ya)) := y2
      clear d0 d1 d2 d3 f0 f1 f2 f3 hgc HBP HBQ HGR hbw y1 y2
      obtain ⟨p0, p1, p2, _, _, _, p6⟩ := HBP2.out
      go_wp2_with fail
      refine (HUx.out _).mono ?_
      rintro e w3 ⟨rfl, hg3⟩
      have HGQ : Hid (Gr w1 w3) := HGP.out.trans hg3
      have hsx : w1.heap.size < w3.heap.size := (HBP2.out.gr hg3).lt
      have hsy : w1.heap.size + 1 < w3.heap.size := (HBQ2.out.gr hg3).lt
      have hs3 : w1.heap.size ≤ w3.heap.size := Nat.le_of_lt hsx
      have HBP3 : Hid (BoxAt w3 w1.heap.size (.int .i64 hp) (.int .i64 ip) (.int .i64 op)) := HBP2.out.gr hg3
      have HBQ3 : Hid (BoxAt w3 (w1.heap.size + 1) (.int .i64 hq) (.int .i64 iq) (.int .i64 oq)) := HBQ2.out.gr hg3
      have y1 := hg3.keep Y1.out
      have y2 := hg3.keep Y2.out
      have hY3 : Y < w3.heap.size := Nat.lt_of_lt_of_le hY hg3.size
      clear p0 p1 p2 p6 x1 x2 hg3 HBP2 HBQ2 HGP Y1 Y2
      obtain ⟨q0, q1, q2, _, _, _, q6⟩ := HBQ3.out
      go_wp2_with fail
      refine (HUy.out _).mono ?_
      rintro e w4 ⟨rfl, hg4⟩
      have HGS : Hid (Gr w1 w4) := HGQ.out.trans ((Gr.refl _).alloc.trans hg4)
      have HBA : Hid (BoxAt w4 w3.heap.size (.int .i64 hp') (.int .i64 ip') (.int .i64 op')) := (BoxAt.new w3 _ _ _ _ _ rfl).gr hg4
      have HBP4 : Hid (BoxAt w4 w1.heap.size (.int .i64 hp) (.int .i64 ip) (.int .i64 op)) := HBP3.out.gr ((Gr.refl _).alloc.trans hg4)
      have HBQ4 : Hid (BoxAt w4 (w1.heap.size + 1) (.int .i64 hq) (.int .i64 iq) (.int .i64 oq)) := HBQ3.out.gr ((Gr.refl _).alloc.trans hg4)
      clear q0 q1 q2 q6 y1 y2 hg4 HBP3 HBQ3 HGQ
      obtain ⟨W5, eW5⟩ : ∃ x, x = w4.alloc (.cells #[.int .i64 hq', .int .i64 iq', .int .i64 oq'] 23) := ⟨_, rfl⟩
      have GW : Hid (Gr w4 W5) := by rw [eW5]; exact (by repeat (first | exact Gr.refl _ | refine Gr.alloc ?_ | refine Gr.drew ?_ | refine Gr.trans ?_ (by assumption)))
      have HBB : Hid (BoxAt W5 w4.heap.size (.int .i64 hq') (.int .i64 iq') (.int .i64 oq')) := by rw [eW5]; exact BoxAt.new _ _ _ _ _ _ rfl
      have hs4 : w1.heap.size < w4.heap.size := HBP4.out.lt
      have hs5 : w1.heap.size + 1 < w4.heap.size := HBQ4.out.lt
      have hs6 : w3.heap.size < w4.heap.size := HBA.out.lt
      go_wp2_with fail
      rw [← eW5]
      have HBP5 : Hid (BoxAt W5 w1.heap.size (.int .i64 hp) (.int .i64 ip) (.int .i64 op)) := HBP4.out.gr GW.out
      have HBQ5 : Hid (BoxAt W5 (w1.heap.size + 1) (.int .i64 hq) (.int .i64 iq) (.int .i64 oq)) := HBQ4.out.gr GW.out
      have HBA5 : Hid (BoxAt W5 w3.heap.size (.int .i64 hp') (.int .i64 ip') (.int .i64 op')) := HBA.out.gr GW.out
      have HG5 : Hid (Gr w1 W5) := HGS.out.trans GW.out
      have hsa : w1.heap.size ≤ w3.heap.size := hs3
      have hd1 : w1.heap.size ≠ w3.heap.size := Nat.ne_of_lt hsx
      have hd2 : w1.heap.size ≠ w4.heap.size := Nat.ne_of_lt hs4
      have hd3 : w1.heap.size + 1 ≠ w3.heap.size := Nat.ne_of_lt hsy
      have hd4 : w1.heap.size + 1 ≠ w4.heap.size := Nat.ne_of_lt hs5
      clear eW5 GW HBP4 HBQ4 HBA HGS hsa
      obtain ⟨p0, p1, p2, pf0, pf1, pf2, p6⟩ := HBP5.out
      obtain ⟨q0, q1, q2, qf0, qf1, qf2, q6⟩ := HBQ5.out
      obtain ⟨a0, a1, a2, _, _, _, a6⟩ := HBA5.out
      obtain ⟨b0, b1, b2, _, _, _, b6⟩ := HBB.out
      go_region
      go_wp2
      go_roundw
      case rel => exact ⟨k + 1, hp', ip', op', hq', iq', oq', by omega, by go_num, ((HBP5.out.set3 _ _ _).far3 _ (by omega) _ _ _).gr (Gr.refl _).drew, ((HBQ5.out.far3 _ (by omega) _ _ _).set3 _ _ _).gr (Gr.refl _).drew, HVP.out, HVQ.out, ((HG5.out.set3 _ (by omega) _ _ _).set3 _ (by omega) _ _ _).drew⟩
      case measure => simp [intOf]; omega
    · have hge : ¬ ((k : Int) < (O.length : Int)) := by omega
      have hke : k = O.length := by omega
      rw [List.drop_eq_nil_of_le (by omega)] at hvp
      rw [show O.length - k = 0 by omega, List.take_zero] at hvq
      obtain ⟨r1, rfl, rfl⟩ := hvp.ended
      obtain ⟨r2, rfl, rfl⟩ := hvq.ended
      have hrg := hvp.rng
      subst r1 r2
      obtain ⟨p0, p1, p2, _, _, _, p6⟩ := hbp
      obtain ⟨q0, q1, q2, _, _, _, q6⟩ := hbq
      have e1 : ((first + kept) == (first + kept)) = true := by simp
      have hr1 : -9223372036854775808 ≤ first + kept := by omega
      have hr2 : first + kept ≤ 9223372036854775807 := by omega
      clear hvp hvq hgr hrg hke
      go_wp2_with fail
      refine (HA.out _).mono ?_
      rintro e w3 ⟨rfl, hg3⟩
      go_wp2
      go_ret
      exact ⟨rfl, HG1.out.trans (HGR.out.trans hg3)⟩

set_option maxRecDepth 100000 in
theorem potOrder_lifted (os : Os) (started : os.Started) (H : Type) (enc : TypeId × Value → H) :
    ReturnsInHanded {} Try.checked os 7 .any (Rows.potOrderSpec.pre6 enc Try.prog Try.f7 Rows.potOrderRow.domain false) (Rows.potOrderSpec.post enc Try.prog Try.f7 false true false false) := by
  refine returnsInHanded_of_change (C := Try.checked) own2 started (by kernel_rfl) Try.func7
    (ChangeSpec.witness6 (enc := enc) (C := Try.checked) false ⟨#[], #[.int .i64 0, .slice none 0 0], []⟩ 8 (by kernel_rfl) (by kernel_rfl) (by kernel_rfl) (by kernel_rfl)) ?_
  intro W base args ds gs before hval0 hW hcnd _
  have hval : ∀ (j : Nat) t v, Try.f7.params[j]? = some t → args[j]? = some v → Value.okWide Try.prog W .any base t v := hval0
  have hW' := hW
  obtain ⟨p, q, hA0, hV, rfl, hfz, hnd⟩ := hW
  have hA : DataW.TrodAll enc Try.prog W 0 (fun _ => true) true Try.f7.params.toList args.toList ds p := hA0
  rw [Try.params7] at hA hval
  obtain ⟨v0, v1, d0, d1, p0, p1, rfl, rfl, rfl, q0, q1⟩ := trodAll_two hA
  obtain ⟨rfl, rfl⟩ := trodVars_none hV
  have k1 := q1
  have lt1 : ∀ x ∈ p1, x.block < W.heap.size := by obtain ⟨m, hm⟩ := k1; exact DataW.trod_lt m _ _ _ hm
  obtain ⟨a0, rfl, rfl, rfl, wa0⟩ := open_int Try.underlying2 (hval 0 2 v0 rfl rfl) q0
  have rg0 := rng_i64 wa0
  obtain ⟨ad1, cap1, T1, rfl, hT1, hn1⟩ := open_acts (hval 1 41 v1 rfl rfl) q1
  clear hA0 hval0
  refine (potOrder_walk a0 T1 ad1 cap1 W hT1 hn1).mono fun e W' ⟨he, hg⟩ => ?_
  subst he
  exact ⟨_, rfl, _, _, _, [], _, [], hW', trodAll_mk1 (shut_bool Try.underlying4 _), trodAll_mk2 (shut_int Try.underlying2 wa0) (Below.trod laidOut2 (by kernel_rfl) (of_decide_eq_true (by kernel_rfl)) k1 hg.below lt1), rfl, hg.below.frame _, fun h => by cases h⟩

theorem potOrder_holds : Rows.PotOrderSaid :=
  OpenClaim.holds_of_wide 7 Try.f7 rfl rfl rfl rfl rfl rfl rfl ⟨rfl, rfl, rfl, rfl, rfl⟩ rfl rfl rfl rfl rfl (by kernel_rfl) Try.func7 (by kernel_rfl)
    (of_decide_eq_true (by kernel_rfl)) (by unfold Func.isWrapper; first | (rw [if_pos (by decide +kernel)]; kernel_rfl) | (rw [if_neg (by decide +kernel)]; exact ⟨rfl, rfl⟩))
    (fun os started H enc _ => potOrder_lifted os started H enc)
end Go.Proofs.Ytjifhfnigngcjaa
