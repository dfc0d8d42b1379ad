/- For every input the law PotPending answers true: whatever is done, undone and kept, all that is pending can be undone, and can be kept; each pot that comes may be. -/
import Derived.Test.YtjifhfnigngcjaaPotK
import Derived.Test.YtjifhfnigngcjaaPotL
import Derived.Test.YtjifhfnigngcjaaOpenB
import Derived.Deep.DeepCutAuto
import Derived.BigRegion
namespace Go.Proofs.Ytjifhfnigngcjaa
open Go.ChangeShapes Go.WideShapes Go.ChangeAt Go.RowKit

set_option maxHeartbeats 8000000 in
set_option maxRecDepth 100000 in
theorem potPending_walk (first : Int) (T : List Four) (ad : Option Addr) (cap : Nat) (w : World) (hT : ActsAt w ad T) (hn : T.length ≤ 9223372036854775807) :
    Calls Try.prog 6 #[.int .i64 first, .slice ad T.length cap] w fun e w' => e = .returned (.bool true) ∧ Gr w w' := by
  have HA : Hid (∀ w', Calls Try.prog 15 #[] w' fun e w2 => e = .returned (.bool true) ∧ Gr w' w2) := fun w' => awake_any w'
  by_cases hf0 : first < 0
  · clear hT
    go_enter Try.func6, Try.ntmps6
    go_wp2_with fail
    refine (HA.out _).mono ?_
    rintro e w1 ⟨rfl, hg1⟩
    go_wp2
    go_ret
    exact ⟨rfl, (by repeat (first | exact Gr.refl _ | refine Gr.alloc ?_ | refine Gr.drew ?_ | refine Gr.trans ?_ (by assumption)))⟩
  by_cases hf1 : 1000000000000000 < first
  · clear hT
    go_enter Try.func6, Try.ntmps6
    go_wp2_with fail
    refine (HA.out _).mono ?_
    rintro e w1 ⟨rfl, hg1⟩
    go_wp2
    go_ret
    exact ⟨rfl, (by repeat (first | exact Gr.refl _ | refine Gr.alloc ?_ | refine Gr.drew ?_ | refine Gr.trans ?_ (by assumption)))⟩
  by_cases hf2 : 300 < (T.length : Int)
  · clear hT
    go_enter Try.func6, Try.ntmps6
    go_wp2_with fail
    refine (HA.out _).mono ?_
    rintro e w1 ⟨rfl, hg1⟩
    go_wp2
    go_ret
    exact ⟨rfl, (by repeat (first | exact Gr.refl _ | refine Gr.alloc ?_ | refine Gr.drew ?_ | refine Gr.trans ?_ (by assumption)))⟩
  have HP : Hid (Calls Try.prog 24 #[.int .i64 first, .slice ad T.length cap] w fun e w' =>
      ∃ (h i o kept : Int) (O : List Four) (ad2 : Option Addr) (cap2 : Nat), e = .returned (.tuple #[.agg #[.int .i64 h, .int .i64 i, .int .i64 o], .slice ad2 O.length cap2, .int .i64 kept, .bool true]) ∧ O.length ≤ 300 ∧ ActsAt w' ad2 O ∧ Pot.Inv first h i o kept O ∧ Gr w w') := played_any first T ad cap w hT (by omega) (by omega) (by omega)
  clear hT
  go_enter Try.func6, Try.ntmps6
  go_wp2_with fail
  refine HP.out.mono ?_
  rintro e w1 ⟨h, i, o, kept, O, ad2, cap2, rfl, hOl, hOA, hinv, hg1⟩
  clear HP
  have HC : Hid (∀ w', Calls Try.prog 9 #[.agg #[.int .i64 h, .int .i64 i, .int .i64 o]] w' fun e w2 => e = .returned (.int .i64 0) ∧ Gr w' w2) := fun w' => check_ok _ _ _ w' hinv.may
  have HU : Hid (∀ k (hk : k < O.length), ∀ w', Calls Try.prog 18 #[.agg #[.int .i64 h, .int .i64 i, .int .i64 o], .bool O[k].out, .int .i64 O[k].amt] w' fun e w2 => ∃ x y z, e = .returned (.tuple #[.agg #[.int .i64 x, .int .i64 y, .int .i64 z], .int .i64 0]) ∧ Gr w' w2) := fun k hk w' => (undo_yes h i o _ _ w' (hinv.can k hk)).mono fun e w2 ⟨h1, h2⟩ => ⟨_, _, _, h1, h2⟩
  have HK : Hid (∀ k (hk : k < O.length), ∀ w', Calls Try.prog 20 #[.agg #[.int .i64 h, .int .i64 i, .int .i64 o], .bool O[k].out, .int .i64 O[k].amt] w' fun e w2 => ∃ x y z, e = .returned (.tuple #[.agg #[.int .i64 x, .int .i64 y, .int .i64 z], .int .i64 0]) ∧ Gr w' w2) := fun k hk w' => (keep_yes h i o _ _ w' (hinv.can k hk)).mono fun e w2 ⟨h1, h2⟩ => ⟨_, _, _, h1, h2⟩
  have HOA : Hid (ActsAt w1 ad2 O) := hOA
  have HG1 : Hid (Gr w w1) := hg1
  clear hOA hinv hg1
  go_wp2_with fail
  refine (HC.out _).mono ?_
  rintro e w2 ⟨rfl, hg2⟩
  have HBP : Hid (BoxAt w2 w1.heap.size (.int .i64 h) (.int .i64 i) (.int .i64 o)) := (BoxAt.new w1 _ _ _ _ _ rfl).gr hg2
  have HOA2 : Hid (ActsAt w2 ad2 O) := HOA.out.gr ((Gr.refl _).alloc.trans hg2)
  have HG2 : Hid (Gr w w2) := HG1.out.trans ((Gr.refl _).alloc.trans hg2)
  clear HOA hg2
  go_wp2
  go_loopw [9] (fun ix wr => ∃ k : Nat, k ≤ O.length ∧ ix = .int .i64 k ∧ Gr w2 wr) (fun ix _ => O.length - (intOf ix).toNat)
  case atStart => exact ⟨0, by omega, rfl, Gr.refl _⟩
  case round =>
    obtain ⟨k, hk, rfl, hgr⟩ := hrel
    have HGR : Hid (Gr w2 wr) := hgr
    by_cases hlt : k < O.length
    · obtain ⟨b, off, rfl, hbl, c0, c1, c2, c3⟩ := HOA2.out k hlt
      have d1 := hgr.keep c1
      have d2 := hgr.keep c2
      have HUk := HU.out k hlt
      have HKk := HK.out k hlt
      obtain ⟨⟨kd, out, amt, wh⟩, ht⟩ : ∃ t, O[k] = t := ⟨_, rfl⟩
      rw [ht] at d1 d2 HUk HKk
      simp only at d1 d2 HUk HKk
      replace HUk : Hid _ := HUk
      replace HKk : Hid _ := HKk
      obtain ⟨p0, p1, p2, _, _, _, p6⟩ := HBP.out.gr hgr
      have hbw : b < wr.heap.size := Nat.lt_of_lt_of_le hbl hgr.size
      have hki : (k : Int) < (O.length : Int) := by omega
      clear c0 c1 c2 c3 ht hgr HU HK
      go_upto_region 9 with fail
      go_cut [10, 11] (fun _ se wx => se = .int .i64 0 ∧ Gr wr wx)
      case first =>
        go_region_held3 (fun w' => Gr wr w' ∧ w'.cell? ⟨w1.heap.size, 0, none⟩ = some (.int .i64 h) ∧ w'.cell? ⟨w1.heap.size, 1, none⟩ = some (.int .i64 i) ∧ w'.cell? ⟨w1.heap.size, 2, none⟩ = some (.int .i64 o) ∧ w'.cell? ⟨b, off + k * 4 + 1, none⟩ = some (.bool out) ∧ w'.cell? ⟨b, off + k * 4 + 2, none⟩ = some (.int .i64 amt))
          ((exact hold5 (by (repeat' (first | with_reducible exact Gr.refl _ | with_reducible refine Gr.set ?_ _ ?_ _ | with_reducible refine Gr.alloc ?_ | with_reducible refine Gr.drew ?_ | with_reducible refine Gr.trans ?_ (by assumption))) <;> (first | (simp; done) | (simp; omega) | omega)) p0 p1 p2 d1 d2))
          ((first
            | (go_at_call 18; refine (HUk.out _).mono ?_; rintro e wn ⟨x0, x1, x2, rfl, hgn⟩; have hzn := hgn.size; simp at hzn; have hbz := ((BoxAt.new wr _ _ _ _ _ rfl).gr (Gr.refl _).drew).gr hgn; obtain ⟨z0, z1, z2, zf0, zf1, zf2, z6⟩ := hbz)
            | (go_at_call 18; refine (HUk.out _).mono ?_; rintro e wn ⟨x0, x1, x2, rfl, hgn⟩; have hzn := hgn.size; simp at hzn)))
        all_goals (go_wp2_with fail; go_meet; exact ⟨rfl, (by (repeat' (first | with_reducible exact Gr.refl _ | with_reducible refine Gr.set ?_ _ ?_ _ | with_reducible refine Gr.alloc ?_ | with_reducible refine Gr.drew ?_ | with_reducible refine Gr.trans ?_ (by assumption))) <;> (first | (simp; done) | (simp; omega) | omega))⟩)
      case rest =>
      obtain ⟨wp, rfl⟩ : ∃ x, x = wc := ⟨_, rfl⟩
      obtain ⟨rfl, hgc⟩ := hcut
      have d1 := hgc.keep d1
      have d2 := hgc.keep d2
      have p0 := hgc.keep p0
      have p1 := hgc.keep p1
      have p2 := hgc.keep p2
      have p6 : w1.heap.size < wp.heap.size := Nat.lt_of_lt_of_le p6 hgc.size
      have hbw : b < wp.heap.size := Nat.lt_of_lt_of_le hbw hgc.size
      have HGP : Hid (Gr w2 wp) := HGR.out.trans hgc
      clear hgc HUk
      go_upto_region 10 with fail
      go_cut [12, 13] (fun _ se wx => se = .int .i64 0 ∧ Gr wp wx)
      case first =>
        go_region_held3 (fun w' => Gr wp w' ∧ w'.cell? ⟨w1.heap.size, 0, none⟩ = some (.int .i64 h) ∧ w'.cell? ⟨w1.heap.size, 1, none⟩ = some (.int .i64 i) ∧ w'.cell? ⟨w1.heap.size, 2, none⟩ = some (.int .i64 o) ∧ w'.cell? ⟨b, off + k * 4 + 1, none⟩ = some (.bool out) ∧ w'.cell? ⟨b, off + k * 4 + 2, none⟩ = some (.int .i64 amt))
          ((exact hold5 (by (repeat' (first | with_reducible exact Gr.refl _ | with_reducible refine Gr.set ?_ _ ?_ _ | with_reducible refine Gr.alloc ?_ | with_reducible refine Gr.drew ?_ | with_reducible refine Gr.trans ?_ (by assumption))) <;> (first | (simp; done) | (simp; omega) | omega)) p0 p1 p2 d1 d2))
          ((first
            | (go_at_call 20; refine (HKk.out _).mono ?_; rintro e wn ⟨x0, x1, x2, rfl, hgn⟩; have hzn := hgn.size; simp at hzn; have hbz := ((BoxAt.new wp _ _ _ _ _ rfl).gr (Gr.refl _).drew).gr hgn; obtain ⟨z0, z1, z2, zf0, zf1, zf2, z6⟩ := hbz)
            | (go_at_call 20; refine (HKk.out _).mono ?_; rintro e wn ⟨x0, x1, x2, rfl, hgn⟩; have hzn := hgn.size; simp at hzn)))
        all_goals (go_wp2_with fail; go_meet; exact ⟨rfl, (by (repeat' (first | with_reducible exact Gr.refl _ | with_reducible refine Gr.set ?_ _ ?_ _ | with_reducible refine Gr.alloc ?_ | with_reducible refine Gr.drew ?_ | with_reducible refine Gr.trans ?_ (by assumption))) <;> (first | (simp; done) | (simp; omega) | omega))⟩)
      case rest =>
      obtain ⟨wq, rfl⟩ : ∃ x, x = wc := ⟨_, rfl⟩
      obtain ⟨rfl, hgc⟩ := hcut
      have HGQ : Hid (Gr w2 wq) := HGP.out.trans hgc
      clear d1 d2 p0 p1 p2 p6 hbw hgc HKk
      go_wp2
      go_roundw
      case rel => exact ⟨k + 1, by omega, by go_num, HGQ.out⟩
      case measure => simp [intOf]; omega
    · have hge : ¬ ((k : Int) < (O.length : Int)) := by omega
      have HG3 : Hid (Gr w wr) := HG2.out.trans hgr
      clear hgr
      go_wp2_with fail
      refine (HA.out _).mono ?_
      rintro e w3 ⟨rfl, hg3⟩
      go_wp2
      go_ret
      exact ⟨rfl, HG3.out.trans hg3⟩

set_option maxRecDepth 100000 in
theorem potPending_lifted (os : Os) (started : os.Started) (H : Type) (enc : TypeId × Value → H) :
    ReturnsInHanded {} Try.checked os 6 .any (Rows.potPendingSpec.pre6 enc Try.prog Try.f6 Rows.potPendingRow.domain false) (Rows.potPendingSpec.post enc Try.prog Try.f6 false true false false) := by
  refine returnsInHanded_of_change (C := Try.checked) own2 started (by kernel_rfl) Try.func6
    (ChangeSpec.witness6 (enc := enc) (C := Try.checked) false ⟨#[], #[.int .i64 0, .slice none 0 0], []⟩ 8 (by kernel_rfl) (by kernel_rfl) (by kernel_rfl) (by kernel_rfl)) ?_
  intro W base args ds gs before hval0 hW hcnd _
  have hval : ∀ (j : Nat) t v, Try.f6.params[j]? = some t → args[j]? = some v → Value.okWide Try.prog W .any base t v := hval0
  have hW' := hW
  obtain ⟨p, q, hA0, hV, rfl, hfz, hnd⟩ := hW
  have hA : DataW.TrodAll enc Try.prog W 0 (fun _ => true) true Try.f6.params.toList args.toList ds p := hA0
  rw [Try.params6] at hA hval
  obtain ⟨v0, v1, d0, d1, p0, p1, rfl, rfl, rfl, q0, q1⟩ := trodAll_two hA
  obtain ⟨rfl, rfl⟩ := trodVars_none hV
  have k1 := q1
  have lt1 : ∀ x ∈ p1, x.block < W.heap.size := by obtain ⟨m, hm⟩ := k1; exact DataW.trod_lt m _ _ _ hm
  obtain ⟨a0, rfl, rfl, rfl, wa0⟩ := open_int Try.underlying2 (hval 0 2 v0 rfl rfl) q0
  have rg0 := rng_i64 wa0
  obtain ⟨ad1, cap1, T1, rfl, hT1, hn1⟩ := open_acts (hval 1 41 v1 rfl rfl) q1
  clear hA0 hval0
  refine (potPending_walk a0 T1 ad1 cap1 W hT1 hn1).mono fun e W' ⟨he, hg⟩ => ?_
  subst he
  exact ⟨_, rfl, _, _, _, [], _, [], hW', trodAll_mk1 (shut_bool Try.underlying4 _), trodAll_mk2 (shut_int Try.underlying2 wa0) (Below.trod laidOut2 (by kernel_rfl) (of_decide_eq_true (by kernel_rfl)) k1 hg.below lt1), rfl, hg.below.frame _, fun h => by cases h⟩

theorem potPending_holds : Rows.PotPendingSaid :=
  OpenClaim.holds_of_wide 6 Try.f6 rfl rfl rfl rfl rfl rfl rfl ⟨rfl, rfl, rfl, rfl, rfl⟩ rfl rfl rfl rfl rfl (by kernel_rfl) Try.func6 (by kernel_rfl)
    (of_decide_eq_true (by kernel_rfl)) (by unfold Func.isWrapper; first | (rw [if_pos (by decide +kernel)]; kernel_rfl) | (rw [if_neg (by decide +kernel)]; exact ⟨rfl, rfl⟩))
    (fun os started H enc _ => potPending_lifted os started H enc)
end Go.Proofs.Ytjifhfnigngcjaa
