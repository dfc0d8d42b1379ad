/- For every input the law LedgerBalance answers true: whatever is called, each account has what it was opened with, and what is in effect on it. -/
import Derived.Test.YtiakajheoajepaaLedU
import Derived.Test.YtiakajheoajepaaBalN
import Derived.Test.YtiakajheoajepaaAwk7
import Derived.Test.YtiakajheoajepaaFewL
namespace Go.Proofs.Ytiakajheoajepaa
open Go.ChangeShapes Go.WideShapes Go.ChangeAt Go.RowKit
open Led (Acc Mk)

theorem sm_take (g : Mk → Int) (M : List Mk) (j : Nat) (h : j < M.length) : Led.sm g (M.take (j + 1)) = Led.sm g (M.take j) + g M[j] := by
  rw [List.take_succ_eq_append_getElem h, Led.sm_app]
  show _ + (g M[j] + 0) = _
  omega
theorem sm_rng {A : List Acc} {M : List Mk} (s : ByteArray) (hm : Led.May A M) (j : Nat) : (-500000000000000000 ≤ Led.sm (Led.gNF s) (M.take j) ∧ Led.sm (Led.gNF s) (M.take j) ≤ 500000000000000000) ∧ (-500000000000000000 ≤ Led.sm (Led.gNK s) (M.take j) ∧ Led.sm (Led.gNK s) (M.take j) ≤ 500000000000000000) := by
  have r := fs_rng (A := A) s ⟨#[]⟩ (M := M.take j) (fun m hmm => hm.om m (List.mem_of_mem_take hmm))
  have l := fs_len s ⟨#[]⟩ (M.take j)
  have h5 := hm.lm
  have s1 := sum_within 1000000000000000 r.1
  have s2 := sum_within 1000000000000000 r.2
  rw [(net_all s (M.take j)).1] at s1
  rw [(net_all s (M.take j)).2] at s2
  have h6 : (M.take j).length ≤ 500 := by rw [List.length_take]; omega
  omega
/- what one opened account comes to -/
theorem bal_one {A : List Acc} {M : List Mk} {F : List (ByteArray × Int)} (hm : Led.May A M) (hb : Bal A M F) (k : Nat) (hk : k < F.length) :
    ∃ x : Acc, findE A M F[k].1 = x ∧ findB A M F[k].1 = true ∧ x.s = F[k].1 ∧ x.a = F[k].2 + Led.sm (Led.gNF F[k].1) M ∧ x.x = Led.sm (Led.gNK F[k].1) M ∧ (0 ≤ x.a ∧ x.a ≤ 1000000000000000) ∧ netE A M F[k].1 = 0 ∧ netF A M F[k].1 ⟨#[]⟩ = Led.sm (Led.gNF F[k].1) M ∧ netK A M F[k].1 ⟨#[]⟩ = Led.sm (Led.gNK F[k].1) M := by
  obtain ⟨x, hx1, hx2, hx3, hx4⟩ := hb.2 F[k] (List.getElem_mem hk)
  have hmB : Led.mayB A M = true := (Led.may_iff A M).2 hm
  obtain ⟨j, hj, rfl⟩ := List.getElem_of_mem hx1
  have hjn : j < (Led.nm A).length := by rw [Led.nm_len]; exact hj
  have hnm : (Led.nm A)[j] = F[k].1 := by rw [Led.nm_get A j hj]; exact hx2
  have hhas : Led.hasB (Led.nm A) F[k].1 = true := (Led.has_iff _ _).2 (by rw [← hnm]; exact List.getElem_mem hjn)
  have hpos : Led.pos (Led.nm A) F[k].1 = j := Led.pos_eq hm.ua j hjn hnm
  have hr := (Act.acc_rng (hm.oa _ hx1)).1
  have hE : netE A M F[k].1 = 0 := by unfold netE; rw [if_pos hmB, if_pos hhas]
  refine ⟨A[j], ?_, ?_, hx2, hx3, hx4, hr, hE, ?_, ?_⟩
  · unfold findE
    rw [if_pos hmB, if_pos hhas, hpos, List.getD_eq_getElem?_getD, List.getElem?_eq_getElem hj]; rfl
  · unfold findB; rw [hmB, hhas]; rfl
  · unfold netF; rw [if_pos hE]; exact (net_all _ M).1
  · unfold netK; rw [if_pos hE]; exact (net_all _ M).2

theorem hold3 {a b : World} (g : Gr a b) {q0 q1 q2 : Addr} {v0 v1 v2 : Value} (h0 : a.cell? q0 = some v0) (h1 : a.cell? q1 = some v1) (h2 : a.cell? q2 = some v2) : Gr a b ∧ b.cell? q0 = some v0 ∧ b.cell? q1 = some v1 ∧ b.cell? q2 = some v2 := ⟨g, g.keep h0, g.keep h1, g.keep h2⟩

set_option maxHeartbeats 16000000 in
set_option maxRecDepth 100000 in
theorem ledgerBalance_walk (T : List Cal) (ad : Option Addr) (cap : Nat) (w : World) (hA : CalsAt w ad T) (hn : T.length ≤ 9223372036854775807) (hT : ∀ q ∈ T, inC q) :
    Calls Try.prog 6 #[.slice ad T.length cap] w fun e w' => e = .returned (.bool true) ∧ Gr w w' := by
  have HA : Hid (∀ w', Calls Try.prog 9 #[] w' fun e w2 => e = .returned (.bool true) ∧ Gr w' w2) := fun w' => awake_any w'
  have HF := few_any T ad cap w hA hn
  generalize (decide (T.length ≤ 120) && T.all (fun q => decide (q.key.size ≤ 1000))) = fb at HF
  cases fb with
  | false =>
    have HFF : Hid (Calls Try.prog 26 #[.slice ad T.length cap] w fun e w' => e = .returned (.bool false) ∧ Gr w w') := HF
    clear HF
    go_enter Try.func6, Try.ntmps6
    go_wp2_with fail
    refine HFF.out.mono ?_
    rintro e w1 ⟨rfl, hg1⟩
    go_wp2_with fail
    refine (HA.out _).mono ?_
    rintro e w2 ⟨rfl, hg2⟩
    go_wp2
    go_ret
    exact ⟨rfl, (by repeat (first | exact Gr.refl _ | refine Gr.alloc ?_ | refine Gr.drew ?_ | refine Gr.trans ?_ (by assumption)))⟩
  | true =>
    have HFF : Hid (Calls Try.prog 26 #[.slice ad T.length cap] w fun e w' => e = .returned (.bool true) ∧ Gr w w') := HF
    have HO : Hid (∀ w', Gr w w' → Calls Try.prog 28 #[.slice ad T.length cap] w' fun e w2 => OpR w' e w2) := fun w' g => opened_any T ad cap w' (hA.gr g) hn hT
    clear HF hA hT
    go_enter Try.func6, Try.ntmps6
    go_wp2_with fail
    refine HFF.out.mono ?_
    rintro e w1 ⟨rfl, hg1⟩
    go_wp2_with fail
    refine (HO.out _ hg1).mono ?_
    rintro e w2 ⟨A, M, F, a1, c1, a2, c2, a3, c3, rfl, hmay, hbal, hr1, hr2, hr3, hg2⟩
    have HM : Hid (Led.May A M) := hmay
    have HB : Hid (Bal A M F) := hbal
    have HR1 : Hid (AccsAt w2 a1 A) := hr1
    have HR2 : Hid (MksAt w2 a2 M) := hr2
    have HR3 : Hid (AccsAt w2 a3 (F.map fA)) := hr3
    have HG2 : Hid (Gr w w2) := hg1.trans hg2
    have hFA : F.length = A.length := hbal.1
    have hFl : F.length ≤ 12 := by have := hmay.la; omega
    have hMl : M.length ≤ 500 := hmay.lm
    have HBX : Hid (TwoAt (w2.alloc (.cells #[.slice a1 A.length c1, .slice a2 M.length c2] 25)) w2.heap.size (.slice a1 A.length c1) (.slice a2 M.length c2)) := TwoAt.new w2 _ _ _ _ rfl
    have HG3 : Hid (Gr w2 (w2.alloc (.cells #[.slice a1 A.length c1, .slice a2 M.length c2] 25))) := (Gr.refl _).alloc
    have hne : ((F.length : Int) != (A.length : Int)) = false := by rw [hFA]; simp
    clear hmay hbal hr1 hr2 hr3 hg1 hg2 hFA HFF HO
    go_wp2
    go_loopw [5] (fun ix wr => ∃ k : Nat, k ≤ F.length ∧ ix = .int .i64 (k : Int) ∧ TwoAt wr w2.heap.size (.slice a1 A.length c1) (.slice a2 M.length c2) ∧ Gr w2 wr) (fun ix _ => F.length - (intOf ix).toNat)
    case atStart => exact ⟨0, by omega, rfl, HBX.out, HG3.out⟩
    case round =>
      obtain ⟨k, hk, rfl, hbx, hg⟩ := hrel
      have HGR : Hid (Gr w2 wr) := hg
      have HBR : Hid (TwoAt wr w2.heap.size (.slice a1 A.length c1) (.slice a2 M.length c2)) := hbx
      clear hg hbx HBX HG3 hne
      obtain ⟨wo, hwo⟩ : ∃ x : World, x = wr := ⟨_, rfl⟩
      subst hwo
      by_cases hlt : k < F.length
      · obtain ⟨x, f1, f2, f3, f4, f5, f6, f7, f8, f9⟩ := bal_one HM.out HB.out k hlt
        obtain ⟨b3, o3, rfl, hb3, e0, e1, _⟩ := AccsAt.at HR3.out k (by simpa using hlt)
        rw [List.getElem_map] at e0 e1
        have e0 : w2.cell? ⟨b3, o3 + k * 7, none⟩ = some (.string F[k].1) := e0
        have e1 : w2.cell? ⟨b3, o3 + k * 7 + 1, none⟩ = some (.int .i64 F[k].2) := e1
        have HRG : Hid (∀ j, (-500000000000000000 ≤ Led.sm (Led.gNF F[k].1) (M.take j) ∧ Led.sm (Led.gNF F[k].1) (M.take j) ≤ 500000000000000000) ∧ (-500000000000000000 ≤ Led.sm (Led.gNK F[k].1) (M.take j) ∧ Led.sm (Led.gNK F[k].1) (M.take j) ≤ 500000000000000000)) := fun j => sm_rng F[k].1 HM.out j
        have HFD : Hid (∀ w', Gr w2 w' → Calls Try.prog 10 #[.agg #[.slice a1 A.length c1, .slice a2 M.length c2], .string F[k].1] w' fun e w2' => e = .returned (.tuple #[.agg #[.string x.s, .int .i64 x.a, .int .i64 x.b, .int .i64 x.c, .int .i64 x.x, .int .i64 x.y, .int .i64 x.z], .bool true]) ∧ Gr w' w2') := fun w' g => by
          have := find7_any A M F[k].1 a1 c1 a2 c2 w' ((led_of HM.out HR1.out HR2.out).gr g)
          rw [f1, f2] at this
          exact this
        have HNT : Hid (∀ w', Gr w2 w' → Calls Try.prog 12 #[.agg #[.slice a1 A.length c1, .slice a2 M.length c2], .string F[k].1, .string ⟨#[]⟩] w' fun e w2' => e = .returned (.tuple #[.int .i64 (Led.sm (Led.gNF F[k].1) M), .int .i64 (Led.sm (Led.gNK F[k].1) M), .int .i64 0]) ∧ Gr w' w2') := fun w' g => by
          have := net7_any A M F[k].1 ⟨#[]⟩ a1 c1 a2 c2 w' ((led_of HM.out HR1.out HR2.out).gr g)
          rw [f7, f8, f9] at this
          exact this
        have HDL : Hid (∀ (j : Nat) (hj : j < M.length) (w' : World), Calls Try.prog 29 #[.agg #[.int .i64 M[j].k, .string M[j].t, .int .i64 M[j].n]] w' fun e w2' => e = .returned (.tuple #[.int .i64 (Led.amF M[j]), .int .i64 (Led.amK M[j])]) ∧ Gr w' w2') := fun j hj w' => delta_any _ _ _ w' (by have := (may_ranges HM.out).2 M[j] (List.getElem_mem hj); unfold inM at this; omega)
        have HST : Hid (∀ (j : Nat) (hj : j < M.length), Led.sm (Led.gNF F[k].1) (M.take (j + 1)) = Led.sm (Led.gNF F[k].1) (M.take j) + (if M[j].t = F[k].1 ∧ M[j].st ≠ 2 then Led.amF M[j] else 0) ∧ Led.sm (Led.gNK F[k].1) (M.take (j + 1)) = Led.sm (Led.gNK F[k].1) (M.take j) + (if M[j].t = F[k].1 ∧ M[j].st ≠ 2 then Led.amK M[j] else 0)) := fun j hj => by
          rw [sm_take _ M j hj, sm_take _ M j hj, (g_at _ _).1, (g_at _ _).2]; exact ⟨rfl, rfl⟩
        have HLA : Hid (Led.sm (Led.gNF F[k].1) (M.take M.length) = Led.sm (Led.gNF F[k].1) M ∧ Led.sm (Led.gNK F[k].1) (M.take M.length) = Led.sm (Led.gNK F[k].1) M) := by rw [List.take_length]; exact ⟨rfl, rfl⟩
        have HXA : Hid (x.a = F[k].2 + Led.sm (Led.gNF F[k].1) M ∧ x.x = Led.sm (Led.gNK F[k].1) M ∧ 0 ≤ x.a ∧ x.a ≤ 1000000000000000) := ⟨f4, f5, f6.1, f6.2⟩
        clear f1 f2 f3 f4 f5 f6 f7 f8 f9
        generalize F[k].1 = s at *
        generalize F[k].2 = n at *
        have d0 := HGR.out.keep e0
        have hbw : b3 < wo.heap.size := Nat.lt_of_lt_of_le hb3 HGR.out.size
        obtain ⟨x0, x1, _, _, xl⟩ := HBR.out
        go_upto_region 9 with fail
        go_cut [6, 7] (fun sp se wx => ∃ Q : Nat, sp = .pointer (some ⟨Q, 0, none⟩) ∧ se = .bool true ∧ AccAt wx Q (.string x.s) (.int .i64 x.a) (.int .i64 x.b) (.int .i64 x.c) (.int .i64 x.x) (.int .i64 x.y) (.int .i64 x.z) ∧ Gr wo wx)
        case first =>
          refine wp_region_held_drew (S := (fun w' => Gr wo w' ∧ w'.cell? ⟨w2.heap.size, 0, none⟩ = some (.slice a1 A.length c1) ∧ w'.cell? ⟨w2.heap.size, 1, none⟩ = some (.slice a2 M.length c2) ∧ w'.cell? ⟨b3, o3 + k * 7, none⟩ = some (.string s))) (by kernel_rfl) (by exact hold3 (by (repeat' (first | with_reducible exact Gr.refl _ | with_reducible refine Gr.set ?_ _ ?_ _ | with_reducible refine Gr.alloc ?_ | with_reducible refine Gr.drew ?_ | with_reducible refine Gr.trans ?_ (by assumption))) <;> (first | (simp; done) | (simp; omega) | omega)) x0 x1 d0) (fun hHeld => ?_)
          refine take_yes 0 38 (v := ?_) rfl rfl (by kernel_rfl) (by kernel_rfl) (by kernel_rfl) (fun _ _ _ h => h) (by rfl) ?_ hHeld ?_
          rotate_left
          · (intro w hSw; (try dsimp only at hSw); go_simp; try with_reducible rfl)
          simp only [Act.put, List.setIfInBounds_toArray, List.set_cons_zero, List.set_cons_succ]
          refine take_yes 1 39 (v := ?_) rfl rfl (by kernel_rfl) (by kernel_rfl) (by kernel_rfl) (fun _ _ _ h => h) (by rfl) ?_ hHeld ?_
          rotate_left
          · (intro w hSw; (try dsimp only at hSw); go_simp; try with_reducible rfl)
          simp only [Act.put, List.setIfInBounds_toArray, List.set_cons_zero, List.set_cons_succ]
          refine take_yes 2 40 (v := ?_) rfl rfl (by kernel_rfl) (by kernel_rfl) (by kernel_rfl) (fun _ _ _ h => h) (by rfl) ?_ hHeld ?_
          rotate_left
          · (intro w hSw; (try dsimp only at hSw); go_simp; try with_reducible rfl)
          simp only [Act.put, List.setIfInBounds_toArray, List.set_cons_zero, List.set_cons_succ]
          refine take_yes 3 41 (v := ?_) rfl rfl (by kernel_rfl) (by kernel_rfl) (by kernel_rfl) (fun _ _ _ h => h) (by rfl) ?_ hHeld ?_
          rotate_left
          · (intro w hSw; (try dsimp only at hSw); go_simp; try with_reducible rfl)
          simp only [Act.put, List.setIfInBounds_toArray, List.set_cons_zero, List.set_cons_succ]
          refine take_yes 4 42 (v := ?_) rfl rfl (by kernel_rfl) (by kernel_rfl) (by kernel_rfl) (fun _ _ _ h => h) (by rfl) ?_ hHeld ?_
          rotate_left
          · (intro w hSw; (try dsimp only at hSw); go_simp; try with_reducible rfl)
          simp only [Act.put, List.setIfInBounds_toArray, List.set_cons_zero, List.set_cons_succ]
          refine take_yes 5 43 (v := ?_) rfl rfl (by kernel_rfl) (by kernel_rfl) (by kernel_rfl) (fun _ _ _ h => h) (by rfl) ?_ hHeld ?_
          rotate_left
          · (intro w hSw; (try dsimp only at hSw); go_simp; try with_reducible rfl)
          simp only [Act.put, List.setIfInBounds_toArray, List.set_cons_zero, List.set_cons_succ]
          refine wpAnyH_ready (rs := [6, 10]) (by kernel_rfl) (by simp) (AllReadyH.cons rfl (fun K hK => ?_) (AllReadyH.cons rfl (fun K hK => ?_) AllReadyH.nil))
          · skip
            go_simp
            (go_at_call 10; refine (HFD.out _ (HGR.out.trans (by (repeat' (first | with_reducible exact Gr.refl _ | with_reducible refine Gr.set ?_ _ ?_ _ | with_reducible refine Gr.alloc ?_ | with_reducible refine Gr.drew ?_ | with_reducible refine Gr.trans ?_ (by assumption))) <;> (first | (simp; done) | (simp; omega) | omega)))).mono ?_; rintro e wn ⟨rfl, hgn⟩)
            (try go_wp2_with fail)
            refine hK.out _ _ (by exact hold3 (by (repeat' (first | with_reducible exact Gr.refl _ | with_reducible refine Gr.set ?_ _ ?_ _ | with_reducible refine Gr.alloc ?_ | with_reducible refine Gr.drew ?_ | with_reducible refine Gr.trans ?_ (by assumption))) <;> (first | (simp; done) | (simp; omega) | omega)) x0 x1 d0) (fun hHeldN => ?_)
            clear hHeld hK K
            have hHeld := hHeldN
            clear hHeldN
            refine take_yes 7 37 (v := ?_) rfl rfl (by kernel_rfl) (by kernel_rfl) (by kernel_rfl) (fun _ _ _ h => h) (by rfl) ?_ hHeld ?_
            rotate_left
            · (intro w hSw; (try dsimp only at hSw); go_simp; try with_reducible rfl)
            simp only [Act.put, List.setIfInBounds_toArray, List.set_cons_zero, List.set_cons_succ]
            refine take_yes 8 45 (v := ?_) rfl rfl (by kernel_rfl) (by kernel_rfl) (by kernel_rfl) (fun _ _ _ h => h) (by rfl) ?_ hHeld ?_
            rotate_left
            · (intro w hSw; (try dsimp only at hSw); go_simp; try with_reducible rfl)
            simp only [Act.put, List.setIfInBounds_toArray, List.set_cons_zero, List.set_cons_succ]
            refine take_yes 9 46 (v := ?_) rfl rfl (by kernel_rfl) (by kernel_rfl) (by kernel_rfl) (fun _ _ _ h => h) (by rfl) ?_ hHeld ?_
            rotate_left
            · (intro w hSw; (try dsimp only at hSw); go_simp; try with_reducible rfl)
            simp only [Act.put, List.setIfInBounds_toArray, List.set_cons_zero, List.set_cons_succ]
            refine wpAnyH_ready (rs := [10]) (by kernel_rfl) (by simp) (AllReadyH.cons rfl (fun K hK => ?_) AllReadyH.nil)
            go_simp
            refine hK.out _ _ (by exact hold3 (by (repeat' (first | with_reducible exact Gr.refl _ | with_reducible refine Gr.set ?_ _ ?_ _ | with_reducible refine Gr.alloc ?_ | with_reducible refine Gr.drew ?_ | with_reducible refine Gr.trans ?_ (by assumption))) <;> (first | (simp; done) | (simp; omega) | omega)) x0 x1 d0) (fun hHeldN => ?_)
            clear hHeld hK K
            have hHeld := hHeldN
            clear hHeldN
            refine wpAnyH_ready (rs := [11]) (by kernel_rfl) (by simp) (AllReadyH.cons rfl (fun K hK => ?_) AllReadyH.nil)
            go_simp
            refine hK.out _ _ (by exact hold3 (by (repeat' (first | with_reducible exact Gr.refl _ | with_reducible refine Gr.set ?_ _ ?_ _ | with_reducible refine Gr.alloc ?_ | with_reducible refine Gr.drew ?_ | with_reducible refine Gr.trans ?_ (by assumption))) <;> (first | (simp; done) | (simp; omega) | omega)) x0 x1 d0) (fun hHeldN => ?_)
            clear hHeld hK K
            have hHeld := hHeldN
            clear hHeldN
            refine take_yes 12 7 (v := ?_) rfl rfl (by kernel_rfl) (by kernel_rfl) (by kernel_rfl) (fun _ _ _ h => h) (by rfl) ?_ hHeld ?_
            rotate_left
            · (intro w hSw; (try dsimp only at hSw); go_simp; try with_reducible rfl)
            simp only [Act.put, List.setIfInBounds_toArray, List.set_cons_zero, List.set_cons_succ]
            refine wpAnyH_done (by kernel_rfl) ?_ _
            go_wp2_with fail
            go_meet
            exact ⟨_, rfl, rfl, AccAt.new wn _ _ _ _ _ _ _ _ _ rfl, (by (repeat' (first | with_reducible exact Gr.refl _ | with_reducible refine Gr.set ?_ _ ?_ _ | with_reducible refine Gr.alloc ?_ | with_reducible refine Gr.drew ?_ | with_reducible refine Gr.trans ?_ (by assumption))) <;> (first | (simp; done) | (simp; omega) | omega))⟩
          · skip
            go_simp
            refine hK.out _ _ (by exact hold3 (by (repeat' (first | with_reducible exact Gr.refl _ | with_reducible refine Gr.set ?_ _ ?_ _ | with_reducible refine Gr.alloc ?_ | with_reducible refine Gr.drew ?_ | with_reducible refine Gr.trans ?_ (by assumption))) <;> (first | (simp; done) | (simp; omega) | omega)) x0 x1 d0) (fun hHeldN => ?_)
            clear hHeld hK K
            have hHeld := hHeldN
            clear hHeldN
            refine wpAnyH_ready (rs := [6]) (by kernel_rfl) (by simp) (AllReadyH.cons rfl (fun K hK => ?_) AllReadyH.nil)
            go_simp
            (go_at_call 10; refine (HFD.out _ (HGR.out.trans (by (repeat' (first | with_reducible exact Gr.refl _ | with_reducible refine Gr.set ?_ _ ?_ _ | with_reducible refine Gr.alloc ?_ | with_reducible refine Gr.drew ?_ | with_reducible refine Gr.trans ?_ (by assumption))) <;> (first | (simp; done) | (simp; omega) | omega)))).mono ?_; rintro e wn ⟨rfl, hgn⟩; have hzn := hgn.size; simp at hzn; have hbz := ((AccAt.new wo _ _ _ _ _ _ _ _ _ rfl).gr (Gr.refl _).drew).gr hgn; have HBZ : Hid (AccAt wn wo.heap.size _ _ _ _ _ _ _) := hbz; obtain ⟨z0, z1, z2, z3, z4, z5, z6⟩ := hbz.cells; obtain ⟨y0, y1, y2, y3, y4, y5, y6⟩ := hbz.frozens; have zl := hbz.lt; clear hbz)
            (try go_wp2_with fail)
            refine hK.out _ _ (by exact hold3 (by (repeat' (first | with_reducible exact Gr.refl _ | with_reducible refine Gr.set ?_ _ ?_ _ | with_reducible refine Gr.alloc ?_ | with_reducible refine Gr.drew ?_ | with_reducible refine Gr.trans ?_ (by assumption))) <;> (first | (simp; done) | (simp; omega) | omega)) x0 x1 d0) (fun hHeldN => ?_)
            clear hHeld hK K
            have hHeld := hHeldN
            clear hHeldN
            refine take_yes 7 37 (v := ?_) rfl rfl (by kernel_rfl) (by kernel_rfl) (by kernel_rfl) (fun _ _ _ h => h) (by rfl) ?_ hHeld ?_
            rotate_left
            · (intro w hSw; (try dsimp only at hSw); go_simp; try with_reducible rfl)
            simp only [Act.put, List.setIfInBounds_toArray, List.set_cons_zero, List.set_cons_succ]
            refine take_yes 8 45 (v := ?_) rfl rfl (by kernel_rfl) (by kernel_rfl) (by kernel_rfl) (fun _ _ _ h => h) (by rfl) ?_ hHeld ?_
            rotate_left
            · (intro w hSw; (try dsimp only at hSw); go_simp; try with_reducible rfl)
            simp only [Act.put, List.setIfInBounds_toArray, List.set_cons_zero, List.set_cons_succ]
            refine take_yes 9 46 (v := ?_) rfl rfl (by kernel_rfl) (by kernel_rfl) (by kernel_rfl) (fun _ _ _ h => h) (by rfl) ?_ hHeld ?_
            rotate_left
            · (intro w hSw; (try dsimp only at hSw); go_simp; try with_reducible rfl)
            simp only [Act.put, List.setIfInBounds_toArray, List.set_cons_zero, List.set_cons_succ]
            refine wpAnyH_ready (rs := [11]) (by kernel_rfl) (by simp) (AllReadyH.cons rfl (fun K hK => ?_) AllReadyH.nil)
            go_simp
            refine hK.out _ _ (by exact hold3 (by (repeat' (first | with_reducible exact Gr.refl _ | with_reducible refine Gr.set ?_ _ ?_ _ | with_reducible refine Gr.alloc ?_ | with_reducible refine Gr.drew ?_ | with_reducible refine Gr.trans ?_ (by assumption))) <;> (first | (simp; done) | (simp; omega) | omega)) x0 x1 d0) (fun hHeldN => ?_)
            clear hHeld hK K
            have hHeld := hHeldN
            clear hHeldN
            refine take_yes 12 7 (v := ?_) rfl rfl (by kernel_rfl) (by kernel_rfl) (by kernel_rfl) (fun _ _ _ h => h) (by rfl) ?_ hHeld ?_
            rotate_left
            · (intro w hSw; (try dsimp only at hSw); go_simp; try with_reducible rfl)
            simp only [Act.put, List.setIfInBounds_toArray, List.set_cons_zero, List.set_cons_succ]
            refine wpAnyH_done (by kernel_rfl) ?_ _
            go_wp2_with fail
            go_meet
            exact ⟨_, rfl, rfl, HBZ.out.set7 _ _ _ _ _ _ _, (by (repeat' (first | with_reducible exact Gr.refl _ | with_reducible refine Gr.set ?_ _ ?_ _ | with_reducible refine Gr.alloc ?_ | with_reducible refine Gr.drew ?_ | with_reducible refine Gr.trans ?_ (by assumption))) <;> (first | (simp; done) | (simp; omega) | omega))⟩
        case rest =>
        obtain ⟨wp, rfl⟩ : ∃ x, x = wc := ⟨_, rfl⟩
        obtain ⟨Q, rfl, rfl, hQA, hgc⟩ := hcut
        have HQA : Hid (AccAt wp Q (.string x.s) (.int .i64 x.a) (.int .i64 x.b) (.int .i64 x.c) (.int .i64 x.x) (.int .i64 x.y) (.int .i64 x.z)) := hQA
        have HGP : Hid (Gr w2 wp) := HGR.out.trans hgc
        have HBP : Hid (TwoAt wp w2.heap.size (.slice a1 A.length c1) (.slice a2 M.length c2)) := HBR.out.gr hgc
        clear hQA hgc x0 x1 xl d0 hbw HFD HBR
        go_wp2
        go_loopw [8, 9, 10] (fun fr ke jx wr => ∃ j : Nat, j ≤ M.length ∧ jx = .int .i64 (j : Int) ∧ fr = .int .i64 (Led.sm (Led.gNF s) (M.take j)) ∧ ke = .int .i64 (Led.sm (Led.gNK s) (M.take j)) ∧ Gr wp wr) (fun _ _ jx _ => M.length - (intOf jx).toNat)
        case atStart => exact ⟨0, by omega, rfl, rfl, rfl, Gr.refl _⟩
        case round =>
          obtain ⟨j, hj, rfl, rfl, rfl, hgj⟩ := hrel
          have HGJ : Hid (Gr wp wr) := hgj
          obtain ⟨x0, x1, _, _, xl⟩ := HBP.out.gr hgj
          clear hgj
          have hG2 := HGP.out.trans HGJ.out
          have d0 := hG2.keep e0
          have d1 := hG2.keep e1
          have hbw : b3 < wr.heap.size := Nat.lt_of_lt_of_le hb3 hG2.size
          clear hG2
          by_cases hjl : j < M.length
          · obtain ⟨b2, o2, rfl, hb2, m0, m1, m2, m3, m4⟩ := MksAt.at (RowAt.gr HR2.out (HGP.out.trans HGJ.out)) j hjl
            have hst := HST.out j hjl
            have hrg := HRG.out j
            have hrg1 := HRG.out (j + 1)
            have hDj := HDL.out j hjl
            have heq := eqB M[j].t s
            have HDJ : Hid (∀ (w' : World), Calls Try.prog 29 #[.agg #[.int .i64 M[j].k, .string M[j].t, .int .i64 M[j].n]] w' fun e w2' => e = .returned (.tuple #[.int .i64 (Led.amF M[j]), .int .i64 (Led.amK M[j])]) ∧ Gr w' w2') := hDj
            clear hDj m0
            by_cases he : M[j].t = s
            · rw [decide_eq_true he] at heq
              by_cases h2 : M[j].st = 2
              · have hs2 : (M[j].st != 2) = false := by simpa using h2
                rw [if_neg (fun h => h.2 h2), if_neg (fun h => h.2 h2), Int.add_zero, Int.add_zero] at hst
                have HS : Hid (Led.sm (Led.gNF s) (M.take (j + 1)) = Led.sm (Led.gNF s) (M.take j) ∧ Led.sm (Led.gNK s) (M.take (j + 1)) = Led.sm (Led.gNK s) (M.take j)) := hst
                clear hst h2 he hrg hrg1
                go_wp2
                go_quiet (fail)
                go_wp2
                go_roundw
                case rel => exact ⟨j + 1, by omega, by go_num, by rw [HS.out.1], by rw [HS.out.2], HGJ.out.trans ((Gr.refl _).drewN _)⟩
                case measure => simp [intOf]; omega
              · have hs2 : (M[j].st != 2) = true := by simpa using h2
                rw [if_pos ⟨he, h2⟩, if_pos ⟨he, h2⟩] at hst
                have hw1 : wrap64 (Led.sm (Led.gNF s) (M.take j) + Led.amF M[j]) = Led.sm (Led.gNF s) (M.take (j + 1)) := by rw [← hst.1]; unfold wrap64; omega
                have hw2 : wrap64 (Led.sm (Led.gNK s) (M.take j) + Led.amK M[j]) = Led.sm (Led.gNK s) (M.take (j + 1)) := by rw [← hst.2]; unfold wrap64; omega
                clear hst h2 he hrg hrg1
                generalize hz1 : Led.sm (Led.gNF s) (M.take (j + 1)) = z1 at hw1
                generalize hz2 : Led.sm (Led.gNK s) (M.take (j + 1)) = z2 at hw2
                have HZ1 : Hid (Led.sm (Led.gNF s) (M.take (j + 1)) = z1 ∧ Led.sm (Led.gNK s) (M.take (j + 1)) = z2) := ⟨hz1, hz2⟩
                have HW : Hid (wrap64 (Led.sm (Led.gNF s) (M.take j) + Led.amF M[j]) = z1 ∧ wrap64 (Led.sm (Led.gNK s) (M.take j) + Led.amK M[j]) = z2) := ⟨hw1, hw2⟩
                clear hz1 hz2 hw1 hw2
                go_wp2
                go_quiet (fail)
                go_wp2_with fail
                refine (HDJ.out _).mono ?_
                rintro e w6 ⟨rfl, hg6⟩
                have HG6 : Hid (Gr wp w6) := HGJ.out.trans (((Gr.refl _).drewN _).trans hg6)
                clear hg6 x0 x1 xl d0 d1 m1 m2 m3 m4
                go_wp2
                go_roundw
                case rel => exact ⟨j + 1, by omega, by go_num, by rw [HZ1.out.1, HW.out.1], by rw [HZ1.out.2, HW.out.2], HG6.out⟩
                case measure => simp [intOf]; omega
            · rw [decide_eq_false he] at heq
              rw [if_neg (fun h => he h.1), if_neg (fun h => he h.1), Int.add_zero, Int.add_zero] at hst
              have HS : Hid (Led.sm (Led.gNF s) (M.take (j + 1)) = Led.sm (Led.gNF s) (M.take j) ∧ Led.sm (Led.gNK s) (M.take (j + 1)) = Led.sm (Led.gNK s) (M.take j)) := hst
              clear hst he hrg hrg1
              go_wp2
              go_quiet (fail)
              go_wp2
              go_roundw
              case rel => exact ⟨j + 1, by omega, by go_num, by rw [HS.out.1], by rw [HS.out.2], HGJ.out.trans ((Gr.refl _).drewN _)⟩
              case measure => simp [intOf]; omega
          · obtain rfl : j = M.length := by omega
            rw [HLA.out.1, HLA.out.2]
            have hxa := HXA.out
            have hQ := HQA.out.gr HGJ.out
            have HQJ : Hid (AccAt wr Q (.string x.s) (.int .i64 x.a) (.int .i64 x.b) (.int .i64 x.c) (.int .i64 x.x) (.int .i64 x.y) (.int .i64 x.z)) := hQ
            have HG2w := HG2
            have HG2 : Hid (Gr w2 wr) := HGP.out.trans HGJ.out
            obtain ⟨hxa1, hxa2, hxa3, hxa4⟩ := hxa
            have hQ1 := hQ.c1
            have hQ4 := hQ.c4
            have hQl := hQ.lt
            rw [hxa2] at hQ4
            generalize Led.sm (Led.gNF s) M = SF at *
            generalize Led.sm (Led.gNK s) M = SK at *
            have hwx : IntKind.i64.wrap (n + SF) = x.a := by rw [IntKind.wrap_i64, hxa1]; omega
            generalize x.a = xa at *
            clear hQ hxa1 hxa2 hxa3 hxa4 HRG HST HDL HLA HXA
            go_upto_region 17 with fail
            refine wp_region_held_drew (S := (fun w' => Gr wr w' ∧ w'.cell? ⟨w2.heap.size, 0, none⟩ = some (.slice a1 A.length c1) ∧ w'.cell? ⟨w2.heap.size, 1, none⟩ = some (.slice a2 M.length c2) ∧ w'.cell? ⟨b3, o3 + k * 7, none⟩ = some (.string s))) (by kernel_rfl) (by exact hold3 (by (repeat' (first | with_reducible exact Gr.refl _ | with_reducible refine Gr.set ?_ _ ?_ _ | with_reducible refine Gr.alloc ?_ | with_reducible refine Gr.drew ?_ | with_reducible refine Gr.trans ?_ (by assumption))) <;> (first | (simp; done) | (simp; omega) | omega)) x0 x1 d0) (fun hHeld => ?_)
            refine take_yes 0 93 (v := ?_) rfl rfl (by kernel_rfl) (by kernel_rfl) (by kernel_rfl) (fun _ _ _ h => h) (by rfl) ?_ hHeld ?_
            rotate_left
            · (intro w hSw; (try dsimp only at hSw); go_simp; try with_reducible rfl)
            simp only [Act.put, List.setIfInBounds_toArray, List.set_cons_zero, List.set_cons_succ]
            refine take_yes 1 94 (v := ?_) rfl rfl (by kernel_rfl) (by kernel_rfl) (by kernel_rfl) (fun _ _ _ h => h) (by rfl) ?_ hHeld ?_
            rotate_left
            · (intro w hSw; (try dsimp only at hSw); go_simp; try with_reducible rfl)
            simp only [Act.put, List.setIfInBounds_toArray, List.set_cons_zero, List.set_cons_succ]
            refine take_yes 2 95 (v := ?_) rfl rfl (by kernel_rfl) (by kernel_rfl) (by kernel_rfl) (fun _ _ _ h => h) (by rfl) ?_ hHeld ?_
            rotate_left
            · (intro w hSw; (try dsimp only at hSw); go_simp; try with_reducible rfl)
            simp only [Act.put, List.setIfInBounds_toArray, List.set_cons_zero, List.set_cons_succ]
            refine take_yes 3 96 (v := ?_) rfl rfl (by kernel_rfl) (by kernel_rfl) (by kernel_rfl) (fun _ _ _ h => h) (by rfl) ?_ hHeld ?_
            rotate_left
            · (intro w hSw; (try dsimp only at hSw); go_simp; try with_reducible rfl)
            simp only [Act.put, List.setIfInBounds_toArray, List.set_cons_zero, List.set_cons_succ]
            refine take_yes 4 97 (v := ?_) rfl rfl (by kernel_rfl) (by kernel_rfl) (by kernel_rfl) (fun _ _ _ h => h) (by rfl) ?_ hHeld ?_
            rotate_left
            · (intro w hSw; (try dsimp only at hSw); go_simp; try with_reducible rfl)
            simp only [Act.put, List.setIfInBounds_toArray, List.set_cons_zero, List.set_cons_succ]
            refine take_yes 5 98 (v := ?_) rfl rfl (by kernel_rfl) (by kernel_rfl) (by kernel_rfl) (fun _ _ _ h => h) (by rfl) ?_ hHeld ?_
            rotate_left
            · (intro w hSw; (try dsimp only at hSw); go_simp; try with_reducible rfl)
            simp only [Act.put, List.setIfInBounds_toArray, List.set_cons_zero, List.set_cons_succ]
            refine wpAnyH_ready (rs := [6]) (by kernel_rfl) (by simp) (AllReadyH.cons rfl (fun K hK => ?_) AllReadyH.nil)
            go_simp
            (go_at_call 12; refine (HNT.out _ (HG2.out.trans (by (repeat' (first | with_reducible exact Gr.refl _ | with_reducible refine Gr.set ?_ _ ?_ _ | with_reducible refine Gr.alloc ?_ | with_reducible refine Gr.drew ?_ | with_reducible refine Gr.trans ?_ (by assumption))) <;> (first | (simp; done) | (simp; omega) | omega)))).mono ?_; rintro e wn ⟨rfl, hgn⟩)
            (try go_wp2_with fail)
            refine hK.out _ _ (by exact hold3 (by (repeat' (first | with_reducible exact Gr.refl _ | with_reducible refine Gr.set ?_ _ ?_ _ | with_reducible refine Gr.alloc ?_ | with_reducible refine Gr.drew ?_ | with_reducible refine Gr.trans ?_ (by assumption))) <;> (first | (simp; done) | (simp; omega) | omega)) x0 x1 d0) (fun hHeldN => ?_)
            clear hHeld hK K
            have hHeld := hHeldN
            clear hHeldN
            refine take_yes 7 92 (v := ?_) rfl rfl (by kernel_rfl) (by kernel_rfl) (by kernel_rfl) (fun _ _ _ h => h) (by rfl) ?_ hHeld ?_
            rotate_left
            · (intro w hSw; (try dsimp only at hSw); go_simp; try with_reducible rfl)
            simp only [Act.put, List.setIfInBounds_toArray, List.set_cons_zero, List.set_cons_succ]
            refine take_yes 8 100 (v := ?_) rfl rfl (by kernel_rfl) (by kernel_rfl) (by kernel_rfl) (fun _ _ _ h => h) (by rfl) ?_ hHeld ?_
            rotate_left
            · (intro w hSw; (try dsimp only at hSw); go_simp; try with_reducible rfl)
            simp only [Act.put, List.setIfInBounds_toArray, List.set_cons_zero, List.set_cons_succ]
            refine take_yes 9 101 (v := ?_) rfl rfl (by kernel_rfl) (by kernel_rfl) (by kernel_rfl) (fun _ _ _ h => h) (by rfl) ?_ hHeld ?_
            rotate_left
            · (intro w hSw; (try dsimp only at hSw); go_simp; try with_reducible rfl)
            simp only [Act.put, List.setIfInBounds_toArray, List.set_cons_zero, List.set_cons_succ]
            refine take_yes 10 102 (v := ?_) rfl rfl (by kernel_rfl) (by kernel_rfl) (by kernel_rfl) (fun _ _ _ h => h) (by rfl) ?_ hHeld ?_
            rotate_left
            · (intro w hSw; (try dsimp only at hSw); go_simp; try with_reducible rfl)
            simp only [Act.put, List.setIfInBounds_toArray, List.set_cons_zero, List.set_cons_succ]
            refine take_yes 11 13 (v := ?_) rfl rfl (by kernel_rfl) (by kernel_rfl) (by kernel_rfl) (fun _ _ _ h => h) (by rfl) ?_ hHeld ?_
            rotate_left
            · (intro w hSw; (try dsimp only at hSw); go_simp; try with_reducible rfl)
            simp only [Act.put, List.setIfInBounds_toArray, List.set_cons_zero, List.set_cons_succ]
            refine take_yes 12 14 (v := ?_) rfl rfl (by kernel_rfl) (by kernel_rfl) (by kernel_rfl) (fun _ _ _ h => h) (by rfl) ?_ hHeld ?_
            rotate_left
            · (intro w hSw; (try dsimp only at hSw); go_simp; try with_reducible rfl)
            simp only [Act.put, List.setIfInBounds_toArray, List.set_cons_zero, List.set_cons_succ]
            refine take_yes 13 15 (v := ?_) rfl rfl (by kernel_rfl) (by kernel_rfl) (by kernel_rfl) (fun _ _ _ h => h) (by rfl) ?_ hHeld ?_
            rotate_left
            · (intro w hSw; (try dsimp only at hSw); go_simp; try with_reducible rfl)
            simp only [Act.put, List.setIfInBounds_toArray, List.set_cons_zero, List.set_cons_succ]
            refine wpAnyH_done (by kernel_rfl) ?_ _
            have gn : Gr wr wn := (Gr.refl _).drew.trans hgn
            have r1 := gn.keep hQ1
            have r4 := gn.keep hQ4
            have r5 := gn.keep d1
            have hl1 : Q < wn.heap.size := Nat.lt_of_lt_of_le hQl gn.size
            have hl3 : b3 < wn.heap.size := Nat.lt_of_lt_of_le hbw gn.size
            have HBN : Hid (TwoAt wn w2.heap.size (.slice a1 A.length c1) (.slice a2 M.length c2)) := (HBP.out.gr HGJ.out).gr gn
            have HGN : Hid (Gr w2 wn) := HG2.out.trans gn
            clear gn hgn hQ1 hQ4 hQl d0 d1 x0 x1 xl hbw
            go_wp2
            go_quiet (fail)
            go_wp2
            go_roundw
            case rel => exact ⟨k + 1, by omega, by go_num, HBN.out.gr ((Gr.refl _).drewN _), HGN.out.trans ((Gr.refl _).drewN _)⟩
            case measure => simp [intOf]; omega
      · obtain rfl : k = F.length := by omega
        go_wp2_with fail
        refine (HA.out _).mono ?_
        rintro e w9 ⟨rfl, hg9⟩
        go_wp2
        go_ret
        exact ⟨rfl, (HG2.out.trans HGR.out).trans hg9⟩

set_option maxRecDepth 100000 in
theorem ledgerBalance_lifted (os : Os) (started : os.Started) (H : Type) (enc : TypeId × Value → H) :
    ReturnsInHanded {} Try.checked os 6 .any (Rows.ledgerBalanceSpec.pre6 enc Try.prog Try.f6 Rows.ledgerBalanceRow.domain false) (Rows.ledgerBalanceSpec.post enc Try.prog Try.f6 false true false false) := by
  refine returnsInHanded_of_change (C := Try.checked) own2 started (by kernel_rfl) Try.func6
    (ChangeSpec.witness6 (enc := enc) (C := Try.checked) false ⟨#[], #[.slice none 0 0], []⟩ 8 (by kernel_rfl) (by kernel_rfl) (by kernel_rfl) (by kernel_rfl)) ?_
  intro W base args ds gs before hval0 hW hcnd _
  have hval : ∀ (j : Nat) t v, Try.f6.params[j]? = some t → args[j]? = some v → Value.okWide Try.prog W .any base t v := hval0
  have hW' := hW
  obtain ⟨p, q, hA0, hV, rfl, hfz, hnd⟩ := hW
  have hA : DataW.TrodAll enc Try.prog W 0 (fun _ => true) true Try.f6.params.toList args.toList ds p := hA0
  rw [Try.params6] at hA hval
  obtain ⟨v0, d0, rfl, rfl, q0⟩ := trodAll_one hA
  obtain ⟨rfl, rfl⟩ := trodVars_none hV
  have k0 := q0
  have lt0 : ∀ x ∈ p, x.block < W.heap.size := by obtain ⟨m, hm⟩ := k0; exact DataW.trod_lt m _ _ _ hm
  obtain ⟨ad0, cap0, T0, rfl, hT0, hn0, hr0⟩ := open_calls (hval 0 57 v0 rfl rfl) q0
  clear hA0 hval0
  refine (ledgerBalance_walk T0 ad0 cap0 W hT0 hn0 hr0).mono fun e W' ⟨he, hg⟩ => ?_
  subst he
  exact ⟨_, rfl, _, _, _, [], _, [], hW', trodAll_mk1 (shut_bool Try.underlying4 _), trodAll_mk1 (Below.trod laidOut2 (by kernel_rfl) (of_decide_eq_true (by kernel_rfl)) k0 hg.below lt0), rfl, hg.below.frame _, fun h => by cases h⟩

theorem ledgerBalance_holds : Rows.LedgerBalanceSaid :=
  OpenClaim.holds_of_wide 6 Try.f6 rfl rfl rfl rfl rfl rfl rfl ⟨rfl, rfl, rfl, rfl, rfl⟩ rfl rfl rfl rfl rfl (by kernel_rfl) Try.func6 (by kernel_rfl)
    (of_decide_eq_true (by kernel_rfl)) (by unfold Func.isWrapper; first | (rw [if_pos (by decide +kernel)]; kernel_rfl) | (rw [if_neg (by decide +kernel)]; exact ⟨rfl, rfl⟩))
    (fun os started H enc _ => ledgerBalance_lifted os started H enc)
end Go.Proofs.Ytiakajheoajepaa
