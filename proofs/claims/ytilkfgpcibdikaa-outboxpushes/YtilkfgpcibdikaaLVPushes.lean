
/- For all items, numbers, times and notes the law OutboxPushes answers true: any items are an outbox, or not, have any note, or not, and take any notes as the document says, or refuse them. -/
import Derived.Test.YtilkfgpcibdikaaOdA
import Derived.Test.YtilkfgpcibdikaaOpenV
import Derived.Test.YtilkfgpcibdikaaOcD
import Derived.Test.YtilkfgpcibdikaaOcE
namespace Go.Proofs.Ytilkfgpcibdikaa
open Go.ChangeShapes Go.WideShapes Go.ChangeAt Go.RowKit

set_option maxHeartbeats 16000000 in
set_option maxRecDepth 100000 in
theorem outboxPushes_walk (D : List Mi) (ad : Option Addr) (cap : Nat) (x y : Int) (Q : List Mn) (adQ : Option Addr) (capQ : Nat) (w : World) (hD : ItsAt w ad D) (hc : D.length ≤ cap) (hn : D.length ≤ 9223372036854775807) (hQ : NtsAt w adQ Q) (hnQ : Q.length ≤ 9223372036854775807) :
    Calls Try.prog 3 #[.slice ad D.length cap, .agg #[.int .i64 x, .int .i64 y], .slice adQ Q.length capQ] w fun e w' => e = .returned (.bool true) ∧ Gr w w' := by
  have HA : Hid (∀ w', Calls Try.prog 8 #[] w' fun e w2 => AwR w' e w2) := fun w' => awake_any w'
  have HF : Hid (∀ w', Gr w w' → Calls Try.prog 7 #[.slice ad D.length cap, .slice adQ Q.length capQ] w' fun e w2 => FewR w' e w2) := fun w' g => few_any D Q ad cap adQ capQ w' (hD.gr g).row (hQ.gr g).row
  have HP : Hid (∀ w', Gr w w' → Calls Try.prog 9 #[.slice ad D.length cap, .int .i64 x, .int .i64 y, .slice adQ Q.length capQ] w' fun e w2 => PtR w' (Ox.push okN (its D) x y (pks Q)) e w2) := fun w' g => push_any D x y Q ad cap adQ capQ w' (hD.gr g) hc hn (hQ.gr g) hnQ
  have HR : Hid (∀ w', Gr w w' → Calls Try.prog 10 #[.slice ad D.length cap, .int .i64 x, .int .i64 y, .slice adQ Q.length capQ] w' fun e w2 => PtR w' (Ox.push okN (its D) x y (pks Q)) e w2) := fun w' g => rPush_any D x y Q ad cap adQ capQ w' (hD.gr g) hc hn (hQ.gr g) hnQ
  have HM : Hid (∀ w', Gr w w' → Calls Try.prog 13 #[.slice ad D.length cap] w' fun e w2 => e = .returned (.int .i64 (mayE D)) ∧ Gr w' w2) := fun w' g => may_any D ad cap w' (hD.gr g) hc hn
  have HRM : Hid (∀ w', Gr w w' → Calls Try.prog 14 #[.slice ad D.length cap] w' fun e w2 => e = .returned (.int .i64 (mayE D)) ∧ Gr w' w2) := fun w' g => rMay_any D ad cap w' (hD.gr g) hc hn
  have HH : Hid (∀ m ∈ Q, ∀ w', Gr w w' → Calls Try.prog 11 #[.slice ad D.length cap, m.v] w' fun e w2 => e = .returned (.bool (Ox.hasB okN (its D) (pk m.x))) ∧ Gr w' w2) := fun m hm w' g => hasO_any D m ad cap w' (hD.gr g) hc hn ((hQ.nt m hm).gr g)
  have HRH : Hid (∀ m ∈ Q, ∀ w', Gr w w' → Calls Try.prog 12 #[.slice ad D.length cap, m.v] w' fun e w2 => e = .returned (.bool (Ox.hasB okN (its D) (pk m.x))) ∧ Gr w' w2) := fun m hm w' g => rHas_any D m ad cap w' (hD.gr g) hc hn ((hQ.nt m hm).gr g)
  have HQ := Lib.hid hQ.row
  generalize Ox.push okN (its D) x y (pks Q) = R at *
  generalize mayE D = z at *
  clear hD hQ
  unfold PtR at HP HR
  go_enter Try.func3, Try.ntmps3
  go_wp2_with fail
  refine (HF.out _ ?_).mono ?_
  · exact (by repeat (first | exact Gr.refl _ | refine Gr.alloc ?_ | refine Gr.drew ?_ | refine Gr.trans ?_ (by assumption)))
  rintro e1 w1 ⟨b, rfl, hg1⟩
  have HG1 : Hid (Gr w w1) := (by repeat (first | exact Gr.refl _ | refine Gr.alloc ?_ | refine Gr.drew ?_ | refine Gr.trans ?_ (by assumption)))
  have c0 : w1.cell? ⟨w.heap.size, 0, none⟩ = some (.int .i64 x) := hg1.keep (by simp)
  have c1 : w1.cell? ⟨w.heap.size, 1, none⟩ = some (.int .i64 y) := hg1.keep (by simp)
  clear hg1 HF
  cases b with
  | false =>
    go_wp2_with fail
    refine (HA.out _).mono ?_
    rintro e2 w2 ⟨rfl, hg2⟩
    go_wp2
    go_ret
    exact ⟨rfl, HG1.out.trans hg2⟩
  | true =>
    go_wp2_with fail
    refine (HP.out _ HG1.out).mono ?_
    rintro e2 w2 ⟨a2, cc2, E2, rfl, hb2, he2, hg2⟩
    obtain ⟨_, _, ee, _, _, hit2, _⟩ := hb2.at
    cases ee
    have HI2 := Lib.hid hit2
    have HE2 := Lib.hid he2
    have hn2 : E2.length ≤ 9223372036854775807 := by
      obtain ⟨_, _, e, h1, h2, _⟩ := hb2.at
      cases e
      omega
    have HN2 := Lib.hid hn2
    have HG2 := Lib.hid (HG1.out.trans hg2)
    have c0 := hg2.keep c0
    have c1 := hg2.keep c1
    clear hb2 he2 hit2 hg2 hn2 HP HG1
    go_wp2_with fail
    refine (HR.out _ HG2.out).mono ?_
    rintro e3 w3 ⟨a3, cc3, E3, rfl, hb3, he3, hg3⟩
    obtain ⟨_, _, ee, _, _, hit3, _⟩ := hb3.at
    cases ee
    have HI3 := Lib.hid hit3
    have HI2b := Lib.hid (HI2.out.gr hg3)
    have HE3 : Hid (its E2 = its E3) := by show _ = _; rw [HE2.out, he3]
    have HG3 := Lib.hid (HG2.out.trans hg3)
    clear hb3 he3 hit3 hg3 HR HG2 HI2 HE2 c0 c1
    go_wp2
    go_loopw [11] (fun s11 wr => ∃ j : Nat, s11 = .int .i64 j ∧ j ≤ Q.length ∧ Gr w3 wr) (fun s11 _ => Q.length - (intOf s11).toNat)
    case atStart => exact ⟨0, rfl, Nat.zero_le _, Gr.refl _⟩
    case round =>
      obtain ⟨j, rfl, hj, hg'⟩ := hrel
      have HG' := Lib.hid hg'
      have hg : Gr w wr := HG3.out.trans hg'
      have HG := Lib.hid hg
      by_cases hlt : j < Q.length
      · obtain ⟨b, off, rfl, hbl, d0, d1, d2, d3, d4, d5⟩ := NtsRow.at HQ.out j hlt
        have d0 := hg.keep d0
        have d1 := hg.keep d1
        have d2 := hg.keep d2
        have d3 := hg.keep d3
        have d4 := hg.keep d4
        have d5 := hg.keep d5
        have hbw : b < wr.heap.size := Nat.lt_of_lt_of_le hbl hg.size
        have hji : (j : Int) < (Q.length : Int) := by omega
        have hj0 : (0 : Int) ≤ (j : Int) := by omega
        have HX := Lib.hid (HH.out Q[j] (List.getElem_mem hlt))
        have HY := Lib.hid (HRH.out Q[j] (List.getElem_mem hlt))
        clear hg hg' HA HM HRM HI2b HI3 HE3
        generalize Q[j] = m at *
        generalize Ox.hasB okN (its D) (pk m.x) = B at *
        obtain ⟨⟨k0, r, n, L, dt, yy⟩, ax, cx⟩ := m
        dsimp only [Mn.v] at *
        generalize L.length = ll at *
        go_wp2_with fail
        refine wp_region_held_drew (S := (fun w' => Gr wr w' ∧ w'.cell? ⟨b, off + j * 6, none⟩ = some (.int .i64 k0) ∧ w'.cell? ⟨b, off + j * 6 + 1, none⟩ = some (.int .i64 r) ∧ w'.cell? ⟨b, off + j * 6 + 2, none⟩ = some (.int .i64 n) ∧ w'.cell? ⟨b, off + j * 6 + 3, none⟩ = some (.slice ax ll cx) ∧ w'.cell? ⟨b, off + j * 6 + 4, none⟩ = some (.string dt) ∧ w'.cell? ⟨b, off + j * 6 + 5, none⟩ = some (.int .i64 yy))) (by kernel_rfl) (by exact ⟨(by repeat (first | exact Gr.refl _ | refine Gr.alloc ?_ | refine Gr.drew ?_ | refine Gr.trans ?_ (by assumption))), Gr.keep (by repeat (first | exact Gr.refl _ | refine Gr.alloc ?_ | refine Gr.drew ?_ | refine Gr.trans ?_ (by assumption))) d0, Gr.keep (by repeat (first | exact Gr.refl _ | refine Gr.alloc ?_ | refine Gr.drew ?_ | refine Gr.trans ?_ (by assumption))) d1, Gr.keep (by repeat (first | exact Gr.refl _ | refine Gr.alloc ?_ | refine Gr.drew ?_ | refine Gr.trans ?_ (by assumption))) d2, Gr.keep (by repeat (first | exact Gr.refl _ | refine Gr.alloc ?_ | refine Gr.drew ?_ | refine Gr.trans ?_ (by assumption))) d3, Gr.keep (by repeat (first | exact Gr.refl _ | refine Gr.alloc ?_ | refine Gr.drew ?_ | refine Gr.trans ?_ (by assumption))) d4, Gr.keep (by repeat (first | exact Gr.refl _ | refine Gr.alloc ?_ | refine Gr.drew ?_ | refine Gr.trans ?_ (by assumption))) d5⟩) (fun hHeld => ?_)
        refine take_yes 0 43 (v := ?_) rfl rfl (by kernel_rfl) (by kernel_rfl) (by kernel_rfl) (fun _ _ _ h => h) (by rfl) ?_ hHeld ?_
        rotate_left
        · (intro w hSw; (try dsimp only at hSw); go_simp; try with_reducible rfl)
        simp only [Act.put, List.setIfInBounds_toArray, List.set_cons_zero, List.set_cons_succ]
        refine take_yes 1 44 (v := ?_) rfl rfl (by kernel_rfl) (by kernel_rfl) (by kernel_rfl) (fun _ _ _ h => h) (by rfl) ?_ hHeld ?_
        rotate_left
        · (intro w hSw; (try dsimp only at hSw); go_simp; try with_reducible rfl)
        simp only [Act.put, List.setIfInBounds_toArray, List.set_cons_zero, List.set_cons_succ]
        refine take_yes 2 45 (v := ?_) rfl rfl (by kernel_rfl) (by kernel_rfl) (by kernel_rfl) (fun _ _ _ h => h) (by rfl) ?_ hHeld ?_
        rotate_left
        · (intro w hSw; (try dsimp only at hSw); go_simp; try with_reducible rfl)
        simp only [Act.put, List.setIfInBounds_toArray, List.set_cons_zero, List.set_cons_succ]
        refine take_yes 3 46 (v := ?_) rfl rfl (by kernel_rfl) (by kernel_rfl) (by kernel_rfl) (fun _ _ _ h => h) (by rfl) ?_ hHeld ?_
        rotate_left
        · (intro w hSw; (try dsimp only at hSw); go_simp; try with_reducible rfl)
        simp only [Act.put, List.setIfInBounds_toArray, List.set_cons_zero, List.set_cons_succ]
        refine take_yes 4 47 (v := ?_) rfl rfl (by kernel_rfl) (by kernel_rfl) (by kernel_rfl) (fun _ _ _ h => h) (by rfl) ?_ hHeld ?_
        rotate_left
        · (intro w hSw; (try dsimp only at hSw); go_simp; try with_reducible rfl)
        simp only [Act.put, List.setIfInBounds_toArray, List.set_cons_zero, List.set_cons_succ]
        refine take_yes 6 49 (v := ?_) rfl rfl (by kernel_rfl) (by kernel_rfl) (by kernel_rfl) (fun _ _ _ h => h) (by rfl) ?_ hHeld ?_
        rotate_left
        · (intro w hSw; (try dsimp only at hSw); go_simp; try with_reducible rfl)
        simp only [Act.put, List.setIfInBounds_toArray, List.set_cons_zero, List.set_cons_succ]
        refine take_yes 7 50 (v := ?_) rfl rfl (by kernel_rfl) (by kernel_rfl) (by kernel_rfl) (fun _ _ _ h => h) (by rfl) ?_ hHeld ?_
        rotate_left
        · (intro w hSw; (try dsimp only at hSw); go_simp; try with_reducible rfl)
        simp only [Act.put, List.setIfInBounds_toArray, List.set_cons_zero, List.set_cons_succ]
        refine take_yes 8 51 (v := ?_) rfl rfl (by kernel_rfl) (by kernel_rfl) (by kernel_rfl) (fun _ _ _ h => h) (by rfl) ?_ hHeld ?_
        rotate_left
        · (intro w hSw; (try dsimp only at hSw); go_simp; try with_reducible rfl)
        simp only [Act.put, List.setIfInBounds_toArray, List.set_cons_zero, List.set_cons_succ]
        refine take_yes 9 52 (v := ?_) rfl rfl (by kernel_rfl) (by kernel_rfl) (by kernel_rfl) (fun _ _ _ h => h) (by rfl) ?_ hHeld ?_
        rotate_left
        · (intro w hSw; (try dsimp only at hSw); go_simp; try with_reducible rfl)
        simp only [Act.put, List.setIfInBounds_toArray, List.set_cons_zero, List.set_cons_succ]
        refine take_yes 10 53 (v := ?_) rfl rfl (by kernel_rfl) (by kernel_rfl) (by kernel_rfl) (fun _ _ _ h => h) (by rfl) ?_ hHeld ?_
        rotate_left
        · (intro w hSw; (try dsimp only at hSw); go_simp; try with_reducible rfl)
        simp only [Act.put, List.setIfInBounds_toArray, List.set_cons_zero, List.set_cons_succ]
        refine wpAnyH_ready (rs := [5]) (by kernel_rfl) (by simp) (AllReadyH.cons rfl (fun K hK => ?_) AllReadyH.nil)
        go_simp
        (go_at_call 11; refine (HX.out _ (HG.out.trans hHeld.1)).mono ?_; rintro e4 wn ⟨rfl, hgn⟩)
        (try go_wp2_with fail)
        refine hK.out _ _ (by exact ⟨(by repeat (first | exact Gr.refl _ | refine Gr.alloc ?_ | refine Gr.drew ?_ | refine Gr.trans ?_ (by assumption))), Gr.keep (by repeat (first | exact Gr.refl _ | refine Gr.alloc ?_ | refine Gr.drew ?_ | refine Gr.trans ?_ (by assumption))) d0, Gr.keep (by repeat (first | exact Gr.refl _ | refine Gr.alloc ?_ | refine Gr.drew ?_ | refine Gr.trans ?_ (by assumption))) d1, Gr.keep (by repeat (first | exact Gr.refl _ | refine Gr.alloc ?_ | refine Gr.drew ?_ | refine Gr.trans ?_ (by assumption))) d2, Gr.keep (by repeat (first | exact Gr.refl _ | refine Gr.alloc ?_ | refine Gr.drew ?_ | refine Gr.trans ?_ (by assumption))) d3, Gr.keep (by repeat (first | exact Gr.refl _ | refine Gr.alloc ?_ | refine Gr.drew ?_ | refine Gr.trans ?_ (by assumption))) d4, Gr.keep (by repeat (first | exact Gr.refl _ | refine Gr.alloc ?_ | refine Gr.drew ?_ | refine Gr.trans ?_ (by assumption))) d5⟩) (fun hHeldN => ?_)
        clear hHeld hK K
        have hHeld := hHeldN
        clear hHeldN
        refine wpAnyH_ready (rs := [11]) (by kernel_rfl) (by simp) (AllReadyH.cons rfl (fun K hK => ?_) AllReadyH.nil)
        go_simp
        (go_at_call 12; refine (HY.out _ (HG.out.trans hHeld.1)).mono ?_; rintro e5 wm ⟨rfl, hgm⟩)
        (try go_wp2_with fail)
        refine hK.out _ _ (by exact ⟨(by repeat (first | exact Gr.refl _ | refine Gr.alloc ?_ | refine Gr.drew ?_ | refine Gr.trans ?_ (by assumption))), Gr.keep (by repeat (first | exact Gr.refl _ | refine Gr.alloc ?_ | refine Gr.drew ?_ | refine Gr.trans ?_ (by assumption))) d0, Gr.keep (by repeat (first | exact Gr.refl _ | refine Gr.alloc ?_ | refine Gr.drew ?_ | refine Gr.trans ?_ (by assumption))) d1, Gr.keep (by repeat (first | exact Gr.refl _ | refine Gr.alloc ?_ | refine Gr.drew ?_ | refine Gr.trans ?_ (by assumption))) d2, Gr.keep (by repeat (first | exact Gr.refl _ | refine Gr.alloc ?_ | refine Gr.drew ?_ | refine Gr.trans ?_ (by assumption))) d3, Gr.keep (by repeat (first | exact Gr.refl _ | refine Gr.alloc ?_ | refine Gr.drew ?_ | refine Gr.trans ?_ (by assumption))) d4, Gr.keep (by repeat (first | exact Gr.refl _ | refine Gr.alloc ?_ | refine Gr.drew ?_ | refine Gr.trans ?_ (by assumption))) d5⟩) (fun hHeldN => ?_)
        clear hHeld hK K
        have hHeld := hHeldN
        clear hHeldN
        refine take_yes 12 55 (v := ?_) rfl rfl (by kernel_rfl) (by kernel_rfl) (by kernel_rfl) (fun _ _ _ h => h) (by rfl) ?_ hHeld ?_
        rotate_left
        · (intro w hSw; (try dsimp only at hSw); go_simp; try with_reducible rfl)
        simp only [Act.put, List.setIfInBounds_toArray, List.set_cons_zero, List.set_cons_succ]
        refine wpAnyH_done (by kernel_rfl) ?_ _
        have HG2 := Lib.hid (HG'.out.trans hHeld.1)
        clear hHeld d0 d1 d2 d3 d4 d5
        go_wp2
        go_roundw
        case rel => exact ⟨j + 1, by go_num, by omega, HG2.out⟩
        case measure => simp [intOf]; omega
      · have hge : ¬ ((j : Int) < (Q.length : Int)) := by omega
        have HS : Hid (∀ w', Gr w3 w' → Calls Try.prog 15 #[.slice a2 E2.length cc2, .slice a3 E3.length cc3] w' fun e w2 => e = .returned (.bool true) ∧ Gr w' w2) := fun w' g => rSame_yes E2 E3 a2 cc2 a3 cc3 w' (HI2b.out.gr g) (HI3.out.gr g) HN2.out HE3.out
        clear hg hg' HI2b HI3 HE3 HH HRH
        go_wp2_with fail
        refine (HM.out _ HG.out).mono ?_
        rintro e4 w4 ⟨rfl, hg4⟩
        have HG4 := Lib.hid (HG.out.trans hg4)
        have HG4' := Lib.hid (HG'.out.trans hg4)
        clear hg4 HG HG'
        go_wp2_with fail
        refine (HRM.out _ HG4.out).mono ?_
        rintro e5 w5 ⟨rfl, hg5⟩
        have HG5 := Lib.hid (HG4.out.trans hg5)
        have HG5' := Lib.hid (HG4'.out.trans hg5)
        clear hg5 HG4 HG4'
        go_wp2_with fail
        refine (HS.out _ HG5'.out).mono ?_
        rintro e6 w6 ⟨rfl, hg6⟩
        have HG6 := Lib.hid (HG5.out.trans hg6)
        clear hg6 HG5 HG5' HS
        go_wp2_with fail
        refine (HA.out _).mono ?_
        rintro e7 w7 ⟨rfl, hg7⟩
        have HG7 := Lib.hid (HG6.out.trans hg7)
        go_wp2
        go_ret
        exact ⟨rfl, HG7.out⟩

set_option maxRecDepth 100000 in
theorem outboxPushes_lifted (os : Os) (started : os.Started) (H : Type) (enc : TypeId × Value → H) :
    ReturnsInHanded {} Try.checked os 3 .any (Rows.outboxPushesSpec.pre6 enc Try.prog Try.f3 Rows.outboxPushesRow.domain false) (Rows.outboxPushesSpec.post enc Try.prog Try.f3 false true false false) := by
  refine returnsInHanded_of_change (C := Try.checked) own2 started (by kernel_rfl) Try.func3
    (ChangeSpec.witness6 (enc := enc) (C := Try.checked) false ⟨#[], #[.slice none 0 0, .agg #[.int .i64 0, .int .i64 0], .slice none 0 0], []⟩ 8 (by kernel_rfl) (by kernel_rfl) (by kernel_rfl) (by kernel_rfl)) ?_
  intro W base args ds gs before hval0 hW hcnd _
  have hval : ∀ (j : Nat) t v, Try.f3.params[j]? = some t → args[j]? = some v → Value.okWide Try.prog W .any base t v := hval0
  have hW' := hW
  obtain ⟨p, q, hA0, hV, rfl, hfz, hnd⟩ := hW
  have hA : DataW.TrodAll enc Try.prog W 0 (fun _ => true) true Try.f3.params.toList args.toList ds p := hA0
  rw [Try.params3] at hA hval
  obtain ⟨v0, v1, v2, d0, d1, d2, p0, p1, p2, rfl, rfl, rfl, q0, q1, q2⟩ := trodAll_three hA
  obtain ⟨rfl, rfl⟩ := trodVars_none hV
  have k0 := q0
  have lt0 : ∀ x ∈ p0, x.block < W.heap.size := by obtain ⟨m, hm⟩ := k0; exact DataW.trod_lt m _ _ _ hm
  have k1 := q1
  have lt1 : ∀ x ∈ p1, x.block < W.heap.size := by obtain ⟨m, hm⟩ := k1; exact DataW.trod_lt m _ _ _ hm
  have k2 := q2
  have lt2 : ∀ x ∈ p2, x.block < W.heap.size := by obtain ⟨m, hm⟩ := k2; exact DataW.trod_lt m _ _ _ hm
  obtain ⟨ad0, cap0, D0, rfl, hD0, hc0, hn0⟩ := open_items (hval 0 22 v0 rfl rfl) q0
  obtain ⟨x1, y1, rfl, hi1, hj1⟩ := open_a2 (hval 1 23 v1 rfl rfl) q1
  obtain ⟨ad2, cap2, Q2, rfl, hQ2, hn2⟩ := open_notes (hval 2 24 v2 rfl rfl) q2
  clear hA0 hval0
  refine (outboxPushes_walk D0 ad0 cap0 x1 y1 Q2 ad2 cap2 W hD0 hc0 hn0 hQ2 hn2).mono fun e W' ⟨he, hg⟩ => ?_
  subst he
  exact ⟨_, rfl, _, _, _, [], _, [], hW', trodAll_mk1 (shut_bool Try.underlying4 _), trodAll_mk3 (Below.trod laidOut2 (by kernel_rfl) (of_decide_eq_true (by kernel_rfl)) k0 hg.below lt0) (Below.trod laidOut2 (by kernel_rfl) (of_decide_eq_true (by kernel_rfl)) k1 hg.below lt1) (Below.trod laidOut2 (by kernel_rfl) (of_decide_eq_true (by kernel_rfl)) k2 hg.below lt2), rfl, hg.below.frame _, fun h => by cases h⟩

theorem outboxPushes_holds : Rows.OutboxPushesSaid :=
  OpenClaim.holds_of_wide 3 Try.f3 rfl rfl rfl rfl rfl rfl rfl ⟨rfl, rfl, rfl, rfl, rfl⟩ rfl rfl rfl rfl rfl (by kernel_rfl) Try.func3 (by kernel_rfl)
    (of_decide_eq_true (by kernel_rfl)) (by unfold Func.isWrapper; first | (rw [if_pos (by decide +kernel)]; kernel_rfl) | (rw [if_neg (by decide +kernel)]; exact ⟨rfl, rfl⟩))
    (fun os started H enc _ => outboxPushes_lifted os started H enc)
end Go.Proofs.Ytilkfgpcibdikaa
