import Derived.Test.YtilkfgpcibdikaaObG

/- outbox: Answered, Due, Anew. -/
namespace Go.Proofs.Ytilkfgpcibdikaa
open Go.RowKit

theorem mayE_ok {D : List Mi} (h : Ox.mayB okN (its D) = true) : mayE D = 0 := by unfold mayE; rw [if_pos h]
theorem mayE_bad {D : List Mi} (h : Ox.mayB okN (its D) = false) : mayE D = 2 := by unfold mayE; rw [h]; rfl
theorem mayB_len {D : List Mi} (h : Ox.mayB okN (its D) = true) : D.length ≤ 12 := by
  have := ((Ox.mayB_iff _ _).1 h).len
  rwa [its_len] at this
theorem may_one {D : List Mi} (h : Ox.mayB okN (its D) = true) : ∀ y ∈ its D, (1 ≤ y.q ∧ y.q ≤ 1000000000) ∧ okN y.n = true ∧ (0 ≤ y.d ∧ y.d ≤ 1000000016) ∧ (0 ≤ y.s ∧ y.s ≤ 1000000) :=
  fun y hy => (Ox.one_iff _ _).1 (((Ox.mayB_iff _ _).1 h).all y hy)
theorem small_its {E : List Mi} (h : ∀ y ∈ its E, okN y.n = true) : ∀ x ∈ E, x.m.x.L.length ≤ 1000 ∧ x.m.x.d.size ≤ 1000 := by
  intro x hx
  have := h x.it (List.mem_map.2 ⟨x, hx, rfl⟩)
  obtain ⟨h1, h2⟩ := nt_small (x := x.m.x) (by rw [← okN_pk]; exact this)
  omega
theorem its_filt (D : List Mi) (f : Ox.It Nx → Bool) : its (D.filter fun x => f x.it) = (its D).filter f := by
  unfold its
  rw [List.filter_map]; rfl

set_option maxHeartbeats 4000000 in
set_option maxRecDepth 100000 in
theorem answered_any (D : List Mi) (low : Int) (ad : Option Addr) (cap : Nat) (w : World) (hD : ItsAt w ad D) (hc : D.length ≤ cap) (hn : D.length ≤ 9223372036854775807) :
    Calls Try.prog 18 #[.slice ad D.length cap, .int .i64 low] w fun e w' => BxR (Ox.ans okN (its D) low) w e w' := by
  have HM : Hid (∀ w', Gr w w' → Calls Try.prog 13 #[.slice ad D.length cap] w' fun e w2 => e = .returned (.int .i64 (mayE D)) ∧ Gr w' w2) := fun w' g => may_any D ad cap w' (hD.gr g) hc hn
  cases hm : Ox.mayB okN (its D) with
  | false =>
    have HF : Hid (Ox.ans okN (its D) low = its []) := by show _ = _; unfold Ox.ans; rw [hm]; rfl
    rw [mayE_bad hm] at HM
    clear hm hD
    go_enter Try.func18, Try.ntmps18
    go_wp2_with fail
    refine (HM.out _ ?_).mono ?_
    · exact (by repeat (first | exact Gr.refl _ | refine Gr.alloc ?_ | refine Gr.drew ?_ | refine Gr.trans ?_ (by assumption)))
    rintro e1 w1 ⟨rfl, hg1⟩
    go_wp2
    go_ret
    exact ⟨none, 0, [], rfl, Bxs.nil _ _, HF.out.symm, (by repeat (first | exact Gr.refl _ | refine Gr.alloc ?_ | refine Gr.drew ?_ | refine Gr.trans ?_ (by assumption)))⟩
  | true =>
    have HF : Hid (Ox.ans okN (its D) low = its (D.filter fun x => decide (low < x.q))) := by
      show _ = _
      unfold Ox.ans
      rw [if_pos hm]
      exact (its_filt D (fun y => decide (low < y.q))).symm
    rw [mayE_ok hm] at HM
    have hl12 := mayB_len hm
    have HO : Hid (∀ y ∈ its (D.filter fun x => decide (low < x.q)), okN y.n = true) := by
      intro y hy
      replace hy : y ∈ (its D).filter (fun y => decide (low < y.q)) := by rw [← its_filt]; exact hy
      exact (may_one hm y (List.mem_filter.1 hy).1).2.1
    have HCh : Hid (∀ w' g, Gr w w' → w'.cell? ⟨g, 0, none⟩ = some (.int .i64 low) → Calls Try.prog 36 #[.slice ad D.length cap, .func (.func 38) #[] #[.pointer (some ⟨g, 0, none⟩)]] w' fun e w2 => BxR (its (D.filter fun x => decide (low < x.q))) w' e w2) := fun w' g gr hb => chosenAns_any D low ad cap g w' (hD.gr gr) (by omega) hb
    have HLf : Hid ((D.filter fun x => decide (low < x.q)).length ≤ 12) := Nat.le_trans (List.length_filter_le _ _) hl12
    generalize (D.filter fun x => decide (low < x.q)) = F at *
    clear hm hD
    go_enter Try.func18, Try.ntmps18
    have hmf : ∀ (fn : Fn) (first cap : Array Value) (w : World), (Instr.makeFunc fn first cap).run Try.prog w = .ok (.func fn first cap) w := fun _ _ _ _ => rfl
    go_wp2_with fail
    refine (HM.out _ ?_).mono ?_
    · exact (by repeat (first | exact Gr.refl _ | refine Gr.alloc ?_ | refine Gr.drew ?_ | refine Gr.trans ?_ (by assumption)))
    rintro e1 w1 ⟨rfl, hg1⟩
    have HG1 : Hid (Gr w w1) := (by repeat (first | exact Gr.refl _ | refine Gr.alloc ?_ | refine Gr.drew ?_ | refine Gr.trans ?_ (by assumption)))
    have c0 : w1.cell? ⟨w.heap.size, 0, none⟩ = some (.int .i64 low) := hg1.keep (by simp)
    clear hg1 HM
    go_wp2_with fail
    refine (HCh.out _ _ HG1.out c0).mono ?_
    rintro e2 w2 ⟨a, c, E, rfl, hb, he, hg2⟩
    have HE := Lib.hid he
    have HG2 := Lib.hid (HG1.out.trans hg2)
    obtain ⟨ad2, cap2, e2, _, _, hit, _⟩ := hb.at
    cases e2
    have HIt := Lib.hid hit
    have HCp : Hid (∀ w', Gr w2 w' → Calls Try.prog 26 #[.slice a E.length c] w' fun e w2 => BxR (its E) w' e w2) := fun w' g => copied_any E a c w' (HIt.out.gr g) (by have := congrArg List.length HE.out; have := HLf.out; simp [its] at *; omega) (small_its (by rw [HE.out]; exact HO.out))
    clear he hg2 hit hb c0 HG1 HCh
    go_wp2_with fail
    refine (HCp.out _ ?_).mono ?_
    · exact (by repeat (first | exact Gr.refl _ | refine Gr.alloc ?_ | refine Gr.drew ?_ | refine Gr.trans ?_ (by assumption)))
    rintro e3 w3 ⟨a3, c3, E3, rfl, hb3, he3, hg3⟩
    have HE3 := Lib.hid he3
    have HB3 := Lib.hid (hb3.low (base' := w.heap.size) HG2.out.size)
    have HG3 := Lib.hid (HG2.out.trans hg3)
    clear he3 hb3 hg3
    go_wp2
    go_ret
    exact ⟨a3, c3, E3, rfl, HB3.out, by rw [HE3.out, HE.out, HF.out], HG3.out⟩

theorem hold1 {a b : World} (g : Gr a b) {q0 : Addr} {v0 : Value} (h0 : a.cell? q0 = some v0) : Gr a b ∧ b.cell? q0 = some v0 := ⟨g, g.keep h0⟩
/- what Due answers -/
def DuR (l1 l2 : List (Ox.It Nx)) (w : World) (e : Ending) (w' : World) : Prop :=
  ∃ a c E a2 c2 E2, e = .returned (.tuple #[.slice a E.length c, .slice a2 E2.length c2]) ∧ Bxs w' w.heap.size (.slice a E.length c) E ∧ Bxs w' w.heap.size (.slice a2 E2.length c2) E2 ∧ its E = l1 ∧ its E2 = l2 ∧ Gr w w'
set_option maxHeartbeats 8000000 in
set_option maxRecDepth 100000 in
theorem due_any (D : List Mi) (now : Int) (ad : Option Addr) (cap : Nat) (w : World) (hD : ItsAt w ad D) (hc : D.length ≤ cap) (hn : D.length ≤ 9223372036854775807) :
    Calls Try.prog 16 #[.slice ad D.length cap, .int .i64 now] w fun e w' => DuR (Ox.dueL okN (its D) now) (Ox.dueD okN (its D) now) w e w' := by
  have HM : Hid (∀ w', Gr w w' → Calls Try.prog 13 #[.slice ad D.length cap] w' fun e w2 => e = .returned (.int .i64 (mayE D)) ∧ Gr w' w2) := fun w' g => may_any D ad cap w' (hD.gr g) hc hn
  have HT : Hid (∀ w', Calls Try.prog 25 #[.int .i64 now] w' fun e w2 => e = .returned (.bool (Ox.tmB now)) ∧ w2 = w') := fun w' => isTime_any now w'
  cases hm : Ox.mayB okN (its D) with
  | false =>
    have HF : Hid (Ox.dueL okN (its D) now = its [] ∧ Ox.dueD okN (its D) now = its []) := by
      constructor
      · unfold Ox.dueL; rw [hm]; rfl
      · unfold Ox.dueD; rw [hm]; rfl
    rw [mayE_bad hm] at HM
    clear hm hD
    go_enter Try.func16, Try.ntmps16
    go_wp2_with fail
    refine (HM.out _ ?_).mono ?_
    · exact (by repeat (first | exact Gr.refl _ | refine Gr.alloc ?_ | refine Gr.drew ?_ | refine Gr.trans ?_ (by assumption)))
    rintro e1 w1 ⟨rfl, hg1⟩
    have c0 : w1.cell? ⟨w.heap.size, 0, none⟩ = some (.int .i64 now) := hg1.keep (by simp)
    go_wp2
    go_ret2
    exact ⟨none, 0, [], none, 0, [], rfl, Bxs.nil _ _, Bxs.nil _ _, HF.out.1.symm, HF.out.2.symm, (by repeat (first | exact Gr.refl _ | refine Gr.alloc ?_ | refine Gr.drew ?_ | refine Gr.trans ?_ (by assumption)))⟩
  | true =>
    rw [mayE_ok hm] at HM
    cases ht : Ox.tmB now with
    | false =>
      have HF : Hid (Ox.dueL okN (its D) now = its [] ∧ Ox.dueD okN (its D) now = its []) := by
        constructor
        · unfold Ox.dueL; rw [hm, ht]; rfl
        · unfold Ox.dueD; rw [hm, ht]; rfl
      rw [ht] at HT
      clear hm hD ht
      go_enter Try.func16, Try.ntmps16
      go_wp2_with fail
      refine (HM.out _ ?_).mono ?_
      · exact (by repeat (first | exact Gr.refl _ | refine Gr.alloc ?_ | refine Gr.drew ?_ | refine Gr.trans ?_ (by assumption)))
      rintro e1 w1 ⟨rfl, hg1⟩
      have c0 : w1.cell? ⟨w.heap.size, 0, none⟩ = some (.int .i64 now) := hg1.keep (by simp)
      go_wp2_with fail
      refine (HT.out _).mono ?_
      rintro e2 w2 ⟨rfl, hw2⟩; obtain rfl := hw2.symm
      go_wp2
      go_ret2
      exact ⟨none, 0, [], none, 0, [], rfl, Bxs.nil _ _, Bxs.nil _ _, HF.out.1.symm, HF.out.2.symm, (by repeat (first | exact Gr.refl _ | refine Gr.alloc ?_ | refine Gr.drew ?_ | refine Gr.trans ?_ (by assumption)))⟩
    | true =>
      have htn := of_decide_eq_true ht
      have HF1 : Hid (Ox.dueL okN (its D) now = (its D).map (Ox.tick now)) := by show _ = _; unfold Ox.dueL; rw [if_pos ⟨hm, ht⟩]
      have HF2 : Hid (Ox.dueD okN (its D) now = (its (D.filter fun x => decide (x.d ≤ now))).map (Ox.tick now)) := by
        show _ = _
        unfold Ox.dueD
        rw [if_pos ⟨hm, ht⟩]
        exact congrArg _ (its_filt D (fun y => decide (y.d ≤ now))).symm
      rw [ht] at HT
      have hl12 := mayB_len hm
      have HO : Hid (∀ y ∈ its (D.filter fun x => decide (x.d ≤ now)), okN y.n = true ∧ 0 ≤ y.s ∧ y.s ≤ 1000000) := by
        intro y hy
        replace hy : y ∈ (its D).filter (fun y => decide (y.d ≤ now)) := by rw [← its_filt]; exact hy
        have := may_one hm y (List.mem_filter.1 hy).1
        exact ⟨this.2.1, this.2.2.2⟩
      have HA : Hid (∀ w' g, Gr w w' → w'.cell? ⟨g, 0, none⟩ = some (.int .i64 now) → Calls Try.prog 35 #[.slice ad D.length cap, .func (.func 34) #[] #[.pointer (some ⟨g, 0, none⟩)], .int .i64 now] w' fun e w2 => BxR ((its D).map (Ox.tick now)) w' e w2) := fun w' g gr hb => sent_any D now ad cap g w' (hD.gr gr) (by omega) (small_its (fun y hy => (may_one hm y hy).2.1)) (fun y hy => (may_one hm y hy).2.2.2) htn hb
      have HB : Hid (∀ w' g, Gr w w' → w'.cell? ⟨g, 0, none⟩ = some (.int .i64 now) → Calls Try.prog 36 #[.slice ad D.length cap, .func (.func 34) #[] #[.pointer (some ⟨g, 0, none⟩)]] w' fun e w2 => BxR (its (D.filter fun x => decide (x.d ≤ now))) w' e w2) := fun w' g gr hb => chosenDue_any D now ad cap g w' (hD.gr gr) (by omega) hb
      have HLf : Hid ((D.filter fun x => decide (x.d ≤ now)).length ≤ 12) := Nat.le_trans (List.length_filter_le _ _) hl12
      generalize (D.filter fun x => decide (x.d ≤ now)) = F at *
      have HCs : Hid (∀ E base a c w1 w' g, Bxs w1 base (.slice a E.length c) E → its E = its F → Gr w1 w' → w'.cell? ⟨g, 0, none⟩ = some (.int .i64 now) → Calls Try.prog 35 #[.slice a E.length c, .func (.func 34) #[] #[.pointer (some ⟨g, 0, none⟩)], .int .i64 now] w' fun e w2 => BxR ((its F).map (Ox.tick now)) w' e w2) := by
        intro E base a c w1 w' g hb he gr hc0
        obtain ⟨ad2, cap2, e2, _, _, hit, _⟩ := hb.at
        cases e2
        rw [← he]
        refine sent_any E now a c g w' (hit.gr gr) ?_ (small_its (by rw [he]; exact fun y hy => (HO.out y hy).1)) (by rw [he]; exact fun y hy => (HO.out y hy).2) htn hc0
        have h1 := congrArg List.length he
        have h2 := HLf.out
        rw [its_len, its_len] at h1
        omega
      clear hm hD ht htn HO HLf
      go_enter Try.func16, Try.ntmps16
      have hmf : ∀ (fn : Fn) (first cap : Array Value) (w : World), (Instr.makeFunc fn first cap).run Try.prog w = .ok (.func fn first cap) w := fun _ _ _ _ => rfl
      go_wp2_with fail
      refine (HM.out _ ?_).mono ?_
      · exact (by repeat (first | exact Gr.refl _ | refine Gr.alloc ?_ | refine Gr.drew ?_ | refine Gr.trans ?_ (by assumption)))
      rintro e1 w1 ⟨rfl, hg1⟩
      have c0 : w1.cell? ⟨w.heap.size, 0, none⟩ = some (.int .i64 now) := hg1.keep (by simp)
      have HG1 : Hid (Gr w w1) := (by repeat (first | exact Gr.refl _ | refine Gr.alloc ?_ | refine Gr.drew ?_ | refine Gr.trans ?_ (by assumption)))
      clear hg1 HM
      go_wp2_with fail
      refine (HT.out _).mono ?_
      rintro e2 w2 ⟨rfl, hw2⟩; obtain rfl := hw2.symm
      go_wp2_with fail
      refine wp_region_held_drew (S := (fun w' => Gr w1 w' ∧ w'.cell? ⟨w.heap.size, 0, none⟩ = some (.int .i64 now))) (by kernel_rfl) (by exact hold1 (by repeat (first | exact Gr.refl _ | refine Gr.alloc ?_ | refine Gr.drew ?_ | refine Gr.trans ?_ (by assumption))) c0) (fun hHeld => ?_)
      refine take_yes 0 16 (v := ?_) rfl rfl (by kernel_rfl) (by kernel_rfl) (by kernel_rfl) (fun _ _ _ h => h) (by rfl) ?_ hHeld ?_
      rotate_left
      · (intro w hSw; (try dsimp only at hSw); go_simp; try with_reducible rfl)
      simp only [Act.put, List.setIfInBounds_toArray, List.set_cons_zero, List.set_cons_succ]
      refine take_yes 1 17 (v := ?_) rfl rfl (by kernel_rfl) (by kernel_rfl) (by kernel_rfl) (fun _ _ _ h => h) (by rfl) ?_ hHeld ?_
      rotate_left
      · (intro w hSw; (try dsimp only at hSw); go_simp; try with_reducible rfl)
      simp only [Act.put, List.setIfInBounds_toArray, List.set_cons_zero, List.set_cons_succ]
      refine take_yes 2 18 (v := ?_) rfl rfl (by kernel_rfl) (by kernel_rfl) (by kernel_rfl) (fun _ _ _ h => h) (by rfl) ?_ hHeld ?_
      rotate_left
      · (intro w hSw; (try dsimp only at hSw); go_simp; try with_reducible rfl)
      simp only [Act.put, List.setIfInBounds_toArray, List.set_cons_zero, List.set_cons_succ]
      refine take_yes 4 20 (v := ?_) rfl rfl (by kernel_rfl) (by kernel_rfl) (by kernel_rfl) (fun _ _ _ h => h) (by rfl) ?_ hHeld ?_
      rotate_left
      · (intro w hSw; (try dsimp only at hSw); go_simp; try with_reducible rfl)
      simp only [Act.put, List.setIfInBounds_toArray, List.set_cons_zero, List.set_cons_succ]
      refine take_yes 5 21 (v := ?_) rfl rfl (by kernel_rfl) (by kernel_rfl) (by kernel_rfl) (fun _ _ _ h => h) (by rfl) ?_ hHeld ?_
      rotate_left
      · (intro w hSw; (try dsimp only at hSw); go_simp; try with_reducible rfl)
      simp only [Act.put, List.setIfInBounds_toArray, List.set_cons_zero, List.set_cons_succ]
      refine take_yes 7 23 (v := ?_) rfl rfl (by kernel_rfl) (by kernel_rfl) (by kernel_rfl) (fun _ _ _ h => h) (by rfl) ?_ hHeld ?_
      rotate_left
      · (intro w hSw; (try dsimp only at hSw); go_simp; try with_reducible rfl)
      simp only [Act.put, List.setIfInBounds_toArray, List.set_cons_zero, List.set_cons_succ]
      refine take_yes 8 24 (v := ?_) rfl rfl (by kernel_rfl) (by kernel_rfl) (by kernel_rfl) (fun _ _ _ h => h) (by rfl) ?_ hHeld ?_
      rotate_left
      · (intro w hSw; (try dsimp only at hSw); go_simp; try with_reducible rfl)
      simp only [Act.put, List.setIfInBounds_toArray, List.set_cons_zero, List.set_cons_succ]
      refine wpAnyH_ready (rs := [3]) (by kernel_rfl) (by simp) (AllReadyH.cons rfl (fun K hK => ?_) AllReadyH.nil)
      go_simp
      (go_at_call 35; refine (HA.out _ _ (HG1.out.trans hHeld.1) hHeld.2).mono ?_; rintro e3 w3 ⟨a, c, E, rfl, hb, he, hg3⟩)
      (try go_wp2_with fail)
      refine hK.out _ _ (by exact hold1 (by repeat (first | exact Gr.refl _ | refine Gr.alloc ?_ | refine Gr.drew ?_ | refine Gr.trans ?_ (by assumption))) c0) (fun hHeldN => ?_)
      clear hHeld hK K
      have hHeld := hHeldN
      clear hHeldN
      have k3 := hHeld.1
      refine wpAnyH_ready (rs := [6]) (by kernel_rfl) (by simp) (AllReadyH.cons rfl (fun K hK => ?_) AllReadyH.nil)
      go_simp
      (go_at_call 36; refine (HB.out _ _ (HG1.out.trans hHeld.1) hHeld.2).mono ?_; rintro e4 w4 ⟨a4, c4, E4, rfl, hb4, he4, hg4⟩)
      (try go_wp2_with fail)
      refine hK.out _ _ (by exact hold1 (by repeat (first | exact Gr.refl _ | refine Gr.alloc ?_ | refine Gr.drew ?_ | refine Gr.trans ?_ (by assumption))) c0) (fun hHeldN => ?_)
      clear hHeld hK K
      have hHeld := hHeldN
      clear hHeldN
      have k4 := hHeld.1
      refine wpAnyH_ready (rs := [9]) (by kernel_rfl) (by simp) (AllReadyH.cons rfl (fun K hK => ?_) AllReadyH.nil)
      go_simp
      (go_at_call 35; refine (HCs.out _ _ _ _ _ _ _ hb4 he4 (Gr.refl _) hHeld.2).mono ?_; rintro e5 w5 ⟨a5, c5, E5, rfl, hb5, he5, hg5⟩)
      (try go_wp2_with fail)
      refine hK.out _ _ (by exact hold1 (by repeat (first | exact Gr.refl _ | refine Gr.alloc ?_ | refine Gr.drew ?_ | refine Gr.trans ?_ (by assumption))) c0) (fun hHeldN => ?_)
      clear hHeld hK K
      have hHeld := hHeldN
      clear hHeldN
      refine take_yes 10 4 (v := ?_) rfl rfl (by kernel_rfl) (by kernel_rfl) (by kernel_rfl) (fun _ _ _ h => h) (by rfl) ?_ hHeld ?_
      rotate_left
      · (intro w hSw; (try dsimp only at hSw); go_simp; try with_reducible rfl)
      simp only [Act.put, List.setIfInBounds_toArray, List.set_cons_zero, List.set_cons_succ]
      refine take_yes 11 5 (v := ?_) rfl rfl (by kernel_rfl) (by kernel_rfl) (by kernel_rfl) (fun _ _ _ h => h) (by rfl) ?_ hHeld ?_
      rotate_left
      · (intro w hSw; (try dsimp only at hSw); go_simp; try with_reducible rfl)
      simp only [Act.put, List.setIfInBounds_toArray, List.set_cons_zero, List.set_cons_succ]
      refine wpAnyH_done (by kernel_rfl) ?_ _
      have q1 := Lib.hid (((hb.gr hg4).gr hg5).low (base' := w.heap.size) (by have := HG1.out.size; have := (Gr.refl w1).drew.size; omega))
      have q2 := Lib.hid (hb5.low (base' := w.heap.size) (by have := HG1.out.size; have := k4.size; omega))
      have q3 := Lib.hid he
      have q4 := Lib.hid he5
      have q5 := Lib.hid (HG1.out.trans hHeld.1)
      clear hb hb4 hb5 he he4 he5 HA HB HCs HT
      go_wp2
      go_ret2
      exact ⟨a, c, E, a5, c5, E5, rfl, q1.out, q2.out, by rw [q3.out, HF1.out], by rw [q4.out, HF2.out], q5.out⟩
end Go.Proofs.Ytilkfgpcibdikaa

/- outbox: Anew, nextNumber, Has. -/
namespace Go.Proofs.Ytilkfgpcibdikaa
open Go.RowKit

theorem num_snoc (now : Int) (x : Ox.It Nx) : ∀ (l : List (Ox.It Nx)) (k : Int), Ox.num now k (l ++ [x]) = Ox.num now k l ++ [⟨k + l.length, now, 0, x.n⟩]
  | [], k => by simp [Ox.num]
  | y :: r, k => by
    rw [List.cons_append, Ox.num, num_snoc now x r (k + 1), Ox.num, List.cons_append, List.length_cons, show k + 1 + (r.length : Int) = k + ((r.length + 1 : Nat) : Int) by omega]
theorem num_take_succ (now : Int) (D : List Mi) (k : Nat) (h : k < D.length) : Ox.num now 1 ((its D).take (k + 1)) = Ox.num now 1 ((its D).take k) ++ [⟨1 + (k : Int), now, 0, pk D[k].m.x⟩] := by
  rw [its_take_succ D k h, num_snoc]
  have : ((its D).take k).length = k := by rw [List.length_take, its_len]; omega
  rw [this]; rfl

set_option maxHeartbeats 8000000 in
set_option maxRecDepth 100000 in
theorem anew_any (D : List Mi) (now : Int) (ad : Option Addr) (cap : Nat) (w : World) (hD : ItsAt w ad D) (hc : D.length ≤ cap) (hn : D.length ≤ 9223372036854775807) :
    Calls Try.prog 20 #[.slice ad D.length cap, .int .i64 now] w fun e w' => BxR (Ox.anew okN (its D) now) w e w' := by
  obtain ⟨i0, hi0, hz0, hz1, hz2⟩ := info_parts infoItem
  have HM : Hid (∀ w', Gr w w' → Calls Try.prog 13 #[.slice ad D.length cap] w' fun e w2 => e = .returned (.int .i64 (mayE D)) ∧ Gr w' w2) := fun w' g => may_any D ad cap w' (hD.gr g) hc hn
  have HT : Hid (∀ w', Calls Try.prog 25 #[.int .i64 now] w' fun e w2 => e = .returned (.bool (Ox.tmB now)) ∧ w2 = w') := fun w' => isTime_any now w'
  cases hm : Ox.mayB okN (its D) with
  | false =>
    have HF : Hid (Ox.anew okN (its D) now = its []) := by show _ = _; unfold Ox.anew; rw [hm]; rfl
    rw [mayE_bad hm] at HM
    clear hm hD
    go_enter Try.func20, Try.ntmps20
    go_wp2_with fail
    refine (HM.out _ ?_).mono ?_
    · exact (by repeat (first | exact Gr.refl _ | refine Gr.alloc ?_ | refine Gr.drew ?_ | refine Gr.trans ?_ (by assumption)))
    rintro e1 w1 ⟨rfl, hg1⟩
    go_wp2
    go_ret
    exact ⟨none, 0, [], rfl, Bxs.nil _ _, HF.out.symm, (by repeat (first | exact Gr.refl _ | refine Gr.alloc ?_ | refine Gr.drew ?_ | refine Gr.trans ?_ (by assumption)))⟩
  | true =>
    rw [mayE_ok hm] at HM
    cases ht : Ox.tmB now with
    | false =>
      have HF : Hid (Ox.anew okN (its D) now = its []) := by show _ = _; unfold Ox.anew; rw [hm, ht]; rfl
      rw [ht] at HT
      clear hm hD ht
      go_enter Try.func20, Try.ntmps20
      go_wp2_with fail
      refine (HM.out _ ?_).mono ?_
      · exact (by repeat (first | exact Gr.refl _ | refine Gr.alloc ?_ | refine Gr.drew ?_ | refine Gr.trans ?_ (by assumption)))
      rintro e1 w1 ⟨rfl, hg1⟩
      go_wp2_with fail
      refine (HT.out _).mono ?_
      rintro e2 w2 ⟨rfl, hw2⟩; obtain rfl := hw2.symm
      go_wp2
      go_ret
      exact ⟨none, 0, [], rfl, Bxs.nil _ _, HF.out.symm, (by repeat (first | exact Gr.refl _ | refine Gr.alloc ?_ | refine Gr.drew ?_ | refine Gr.trans ?_ (by assumption)))⟩
    | true =>
      have HF : Hid (Ox.anew okN (its D) now = Ox.num now 1 (its D)) := by show _ = _; unfold Ox.anew; rw [if_pos ⟨hm, ht⟩]
      rw [ht] at HT
      have hl12 := mayB_len hm
      have hsm := small_its (fun y hy => (may_one hm y hy).2.1)
      have HC : Hid (∀ x ∈ D, ∀ q w', Gr w w' → Calls Try.prog 39 #[.int .i64 q, .int .i64 now, x.m.v] w' fun e w2 => ∃ a c, e = .returned (Mi.v ⟨q, now, 0, ⟨x.m.x, a, c⟩⟩) ∧ MnAt w2 ⟨x.m.x, a, c⟩ ∧ (∀ p, a = some p → w'.heap.size ≤ p.block) ∧ Gr w' w2) := fun x hx q w' g => fresh_any q now x.m w' ((hD.nt x hx).gr g) (hsm x hx).1 (hsm x hx).2
      have HD := Lib.hid hD.row
      clear hm hD ht hsm
      go_enter Try.func20, Try.ntmps20
      go_wp2_with fail
      refine (HM.out _ ?_).mono ?_
      · exact (by repeat (first | exact Gr.refl _ | refine Gr.alloc ?_ | refine Gr.drew ?_ | refine Gr.trans ?_ (by assumption)))
      rintro e1 w1 ⟨rfl, hg1⟩
      have HG1 : Hid (Gr w w1) := (by repeat (first | exact Gr.refl _ | refine Gr.alloc ?_ | refine Gr.drew ?_ | refine Gr.trans ?_ (by assumption)))
      clear hg1 HM
      go_wp2_with fail
      refine (HT.out _).mono ?_
      rintro e2 w2 ⟨rfl, hw2⟩; obtain rfl := hw2.symm
      go_wp2
      go_loopw [5, 18] (fun s5 s18 wr => ∃ (k : Nat) (a : Option Addr) (c : Nat) (E : List Mi), s18 = .int .i64 k ∧ s5 = .slice a E.length c ∧ k ≤ D.length ∧ E.length = k ∧ its E = Ox.num now 1 ((its D).take k) ∧ Bxs wr w.heap.size (.slice a E.length c) E ∧ Gr w wr) (fun _ s18 _ => D.length - (intOf s18).toNat)
      case atStart => exact ⟨0, none, 0, [], rfl, rfl, Nat.zero_le _, rfl, by simp [its, Ox.num], Bxs.nil _ _, HG1.out⟩
      case round =>
        clear HG1
        obtain ⟨k, a, c, E, rfl, rfl, hk, hE, hEl, hbx, hg⟩ := hrel
        have HG := Lib.hid hg
        have HB := Lib.hid hbx
        have HEl := Lib.hid hEl
        have HEk : Hid (E.length = k) := hE
        have hEb : E.length ≤ 1000 := by omega
        clear hbx hEl hE
        by_cases hlt : k < D.length
        · obtain ⟨b, off, rfl, hbl, d0, d1, d2, d3, d4, d5, d6, d7, d8⟩ := ItsRow.at HD.out k hlt
          have d0 := hg.keep d0
          have d1 := hg.keep d1
          have d2 := hg.keep d2
          have d3 := hg.keep d3
          have d4 := hg.keep d4
          have d5 := hg.keep d5
          have d6 := hg.keep d6
          have d7 := hg.keep d7
          have d8 := hg.keep d8
          have hbw : b < wr.heap.size := Nat.lt_of_lt_of_le hbl hg.size
          have hki : (k : Int) < (D.length : Int) := by omega
          have HX := Lib.hid (HC.out D[k] (List.getElem_mem hlt) (1 + (k : Int)))
          have HT := Lib.hid (num_take_succ now D k hlt)
          clear hg
          generalize D[k] = x at *
          obtain ⟨q, dd, s, ⟨⟨k0, r, n, L, dt, y⟩, ax, cx⟩⟩ := x
          dsimp only [Mn.v, Mi.v] at *
          go_wp2_with fail
          refine (HX.out _ (HG.out.trans (by repeat (first | exact Gr.refl _ | refine Gr.alloc ?_ | refine Gr.drew ?_ | refine Gr.trans ?_ (by assumption))))).mono ?_
          rintro e1 w3 ⟨a2, c2, rfl, hm2, hf2, hg3⟩
          have hs1 : wr.heap.size + 1 ≤ w3.heap.size := by have := hg3.size; simpa using this
          have g3 : Gr wr w3 := (Gr.refl wr).alloc.trans hg3
          have HOw := Lib.hid ((HB.out.gr g3).gr ((Gr.refl w3).alloc (o := .cells #[.int .i64 (1 + (k : Int)), .int .i64 now, .int .i64 0, .int .i64 k0, .int .i64 r, .int .i64 n, .slice a2 L.length c2, .string dt, .int .i64 y] 48)))
          have HM4 := Lib.hid (hm2.gr ((Gr.refl w3).alloc (o := .cells #[.int .i64 (1 + (k : Int)), .int .i64 now, .int .i64 0, .int .i64 k0, .int .i64 r, .int .i64 n, .slice a2 L.length c2, .string dt, .int .i64 y] 48)))
          have HG4 : Hid (Gr w (w3.alloc (.cells #[.int .i64 (1 + (k : Int)), .int .i64 now, .int .i64 0, .int .i64 k0, .int .i64 r, .int .i64 n, .slice a2 L.length c2, .string dt, .int .i64 y] 48))) := (HG.out.trans g3).alloc
          have hnw := i_new w3 ⟨1 + (k : Int), now, 0, ⟨⟨k0, r, n, L, dt, y⟩, a2, c2⟩⟩ 48
          rw [show (iC ⟨1 + (k : Int), now, 0, ⟨⟨k0, r, n, L, dt, y⟩, a2, c2⟩⟩).toArray = #[.int .i64 (1 + (k : Int)), .int .i64 now, .int .i64 0, .int .i64 k0, .int .i64 r, .int .i64 n, .slice a2 L.length c2, .string dt, .int .i64 y] from rfl] at hnw
          have HNw := Lib.hid hnw
          have HAp : Hid (L ≠ [] → ∀ p, a2 = some p → (Value.slice a E.length c).ownBlock ≠ some p.block) := fun _ => ap_new HB.out (fun p e => by have := hf2 p e; simp at this; omega)
          have hlen4 : w.heap.size ≤ w3.heap.size := by have := HG.out.size; omega
          clear hm2 hf2 hg3 g3 hnw HX d0 d1 d2 d3 d4 d5 d6 d7 d8
          have hm1 : E.length + 1 ≤ maxLen := by unfold maxLen; omega
          go_wp2_with (first
            | (at_builtin; refine wpList_append_own_at _ rfl _ _ 22 rfl w.heap.size 48 i0 (.agg #[.int .i64 0, .int .i64 0, .int .i64 0, .int .i64 0, .int .i64 0, .int .i64 0, .slice none 0 0, .string ⟨#[]⟩, .int .i64 0]) 9 96 Try.underlying22 hi0 hz0 hz1 hz2 rfl (by decide) _ _ _ rfl HOw.out.own ⟨w3.heap.size, 0, none⟩ 1 1 ([(⟨1 + (k : Int), now, 0, ⟨⟨k0, r, n, L, dt, y⟩, a2, c2⟩⟩ : Mi)].flatMap iC) rfl rfl HNw.out (i_one _) hm1 (by omega) (by simp; omega) ?_)
            | fail)
          intro v' w5 hown' hgrow _ hat
          have hmo := Bxs.more (x := ⟨1 + (k : Int), now, 0, ⟨⟨k0, r, n, L, dt, y⟩, a2, c2⟩⟩) HOw.out HM4.out HAp.out hown' hgrow (by simpa using hat)
          obtain ⟨a5, c5, rfl⟩ := own_slice3 hmo
          have HMo := Lib.hid hmo
          have HG5 := Lib.hid (HOw.out.grown HG4.out hgrow (Nat.le_refl _))
          have HL5 : Hid (its (E ++ [(⟨1 + (k : Int), now, 0, ⟨⟨k0, r, n, L, dt, y⟩, a2, c2⟩⟩ : Mi)]) = Ox.num now 1 ((its D).take (k + 1))) := by
            show _ = _
            rw [its_app, HEl.out, HT.out]; rfl
          clear hmo hown' hgrow hat HOw HM4 HNw HAp
          go_wp2
          go_roundw
          case rel => exact ⟨k + 1, a5, c5, E ++ [(⟨1 + (k : Int), now, 0, ⟨⟨k0, r, n, L, dt, y⟩, a2, c2⟩⟩ : Mi)], by go_num, rfl, by omega, by have := HEk.out; simp; omega, HL5.out, HMo.out, HG5.out⟩
          case measure => simp [intOf]; omega
        · have hge : ¬ ((k : Int) < (D.length : Int)) := by omega
          have HL : Hid (its E = Ox.anew okN (its D) now) := by
            show _ = _
            rw [HEl.out, HF.out, List.take_of_length_le (by rw [its_len]; omega)]
          go_wp2
          go_ret
          exact ⟨a, c, E, rfl, HB.out, HL.out, HG.out⟩

theorem next_none (f : Int) : Ox.next (its []) f = f := rfl
theorem next_last {D : List Mi} {k : Nat} (h : D.length = k + 1) (f : Int) : Ox.next (its D) f = max f (D[k].q + 1) := by
  unfold Ox.next
  have e : (its D).getLast? = some D[k].it := by
    have e1 := its_get? D k (by omega)
    rw [List.getLast?_eq_getElem?, its_len, show D.length - 1 = k by omega]
    exact e1
  rw [e]
  show (if f ≤ D[k].q then D[k].q + 1 else f) = _
  split <;> omega
set_option maxHeartbeats 2000000 in
set_option maxRecDepth 100000 in
theorem nextNumber_any (D : List Mi) (f : Int) (ad : Option Addr) (cap : Nat) (w : World) (hD : ItsRow w ad D) (hn : D.length ≤ 1000) (hq : ∀ x ∈ D, 1 ≤ x.q ∧ x.q ≤ 1000000000) :
    Calls Try.prog 42 #[.slice ad D.length cap, .int .i64 f] w fun e w' => e = .returned (.int .i64 (Ox.next (its D) f)) ∧ Gr w w' := by
  by_cases h0 : D.length = 0
  · have hd : D = [] := List.length_eq_zero_iff.1 h0
    have HF : Hid (Ox.next (its D) f = f) := by rw [hd]; exact next_none f
    generalize Ox.next (its D) f = R at *
    generalize D.length = ll at *
    subst h0
    clear hD hq hd
    go_enter Try.func42, Try.ntmps42
    go_wp2
    go_ret
    exact ⟨by rw [HF.out]; rfl, (by repeat (first | exact Gr.refl _ | refine Gr.alloc ?_ | refine Gr.drew ?_ | refine Gr.trans ?_ (by assumption)))⟩
  · obtain ⟨k, hk⟩ : ∃ k, D.length = k + 1 := ⟨D.length - 1, by omega⟩
    have hmx := next_last hk f
    obtain ⟨b, off, rfl, hbl, d0, hrest⟩ := ItsRow.at hD k (by omega)
    clear hrest
    have hqk := hq D[k] (List.getElem_mem (by omega))
    generalize D[k].q = q at *
    generalize Ox.next (its D) f = R at *
    have hz0 : ((D.length : Int) == 0) = false := by rw [beq_eq_false_iff_ne]; omega
    have hz3 : IntKind.i64.wrap (k : Int) = (k : Int) := by rw [IntKind.wrap_i64]; omega
    have hz4 : (D.length : Int) - 1 = (k : Int) := by omega
    have hz5 : (k : Int) < (D.length : Int) := by omega
    generalize D.length = ll at *
    clear hD hq h0
    replace hmx := hmx.symm
    have hk0 : (0 : Int) ≤ (k : Int) := by omega
    go_enter Try.func42, Try.ntmps42
    go_wp2
    go_ret
    exact ⟨by simp [go_sem, *], (by repeat (first | exact Gr.refl _ | refine Gr.alloc ?_ | refine Gr.drew ?_ | refine Gr.trans ?_ (by assumption)))⟩

set_option maxHeartbeats 2000000 in
set_option maxRecDepth 100000 in
theorem hasO_any (D : List Mi) (m : Mn) (ad : Option Addr) (cap : Nat) (w : World) (hD : ItsAt w ad D) (hc : D.length ≤ cap) (hn : D.length ≤ 9223372036854775807) (hm : MnAt w m) :
    Calls Try.prog 11 #[.slice ad D.length cap, m.v] w fun e w' => e = .returned (.bool (Ox.hasB okN (its D) (pk m.x))) ∧ Gr w w' := by
  have HM : Hid (∀ w', Gr w w' → Calls Try.prog 13 #[.slice ad D.length cap] w' fun e w2 => e = .returned (.int .i64 (mayE D)) ∧ Gr w' w2) := fun w' g => may_any D ad cap w' (hD.gr g) hc hn
  have HH : Hid (∀ w', Gr w w' → Calls Try.prog 31 #[.slice ad D.length cap, m.v] w' fun e w2 => e = .returned (.bool (Ox.among (its D) (pk m.x))) ∧ Gr w' w2) := fun w' g => has_any D m ad cap w' (hD.gr g) hn (hm.gr g)
  have HE : Hid (Ox.hasB okN (its D) (pk m.x) = (Ox.mayB okN (its D) && Ox.among (its D) (pk m.x))) := rfl
  generalize Ox.hasB okN (its D) (pk m.x) = R at *
  generalize Ox.among (its D) (pk m.x) = A at *
  cases hmay : Ox.mayB okN (its D) with
  | false =>
    rw [mayE_bad hmay] at HM
    rw [hmay] at HE
    clear hmay hD hm
    obtain ⟨⟨k, r, n, L, d, y⟩, ad2, cap2⟩ := m
    dsimp only [Mn.v] at *
    go_enter Try.func11, Try.ntmps11
    go_wp2_with fail
    refine (HM.out _ ?_).mono ?_
    · exact (by repeat (first | exact Gr.refl _ | refine Gr.alloc ?_ | refine Gr.drew ?_ | refine Gr.trans ?_ (by assumption)))
    rintro e1 w1 ⟨rfl, hg1⟩
    go_wp2
    go_ret
    exact ⟨by rw [HE.out]; rfl, (by repeat (first | exact Gr.refl _ | refine Gr.alloc ?_ | refine Gr.drew ?_ | refine Gr.trans ?_ (by assumption)))⟩
  | true =>
    rw [mayE_ok hmay] at HM
    rw [hmay, Bool.true_and] at HE
    clear hmay hD hm
    obtain ⟨⟨k, r, n, L, d, y⟩, ad2, cap2⟩ := m
    dsimp only [Mn.v] at *
    generalize L.length = ll at *
    go_enter Try.func11, Try.ntmps11
    go_wp2_with fail
    refine (HM.out _ ?_).mono ?_
    · exact (by repeat (first | exact Gr.refl _ | refine Gr.alloc ?_ | refine Gr.drew ?_ | refine Gr.trans ?_ (by assumption)))
    rintro e1 w1 ⟨rfl, hg1⟩
    have HG1 : Hid (Gr w w1) := (by repeat (first | exact Gr.refl _ | refine Gr.alloc ?_ | refine Gr.drew ?_ | refine Gr.trans ?_ (by assumption)))
    have B1 := (Cs.new w [.int .i64 k, .int .i64 r, .int .i64 n, .slice ad2 ll cap2, .string d, .int .i64 y] 37 _ rfl).gr hg1
    have c0 := B1.at_ 0 _ rfl
    have c1 := B1.at_ 1 _ rfl
    have c2 := B1.at_ 2 _ rfl
    have c3 := B1.at_ 3 _ rfl
    have c4 := B1.at_ 4 _ rfl
    have c5 := B1.at_ 5 _ rfl
    have cf0 := B1.fz 0 (by simp)
    have cf1 := B1.fz 1 (by simp)
    have cf2 := B1.fz 2 (by simp)
    have cf3 := B1.fz 3 (by simp)
    have cf4 := B1.fz 4 (by simp)
    have cf5 := B1.fz 5 (by simp)
    have clt := B1.lt
    clear hg1 B1
    go_wp2_with fail
    refine (HH.out _ HG1.out).mono ?_
    rintro e2 w2 ⟨rfl, hg2⟩
    have HG2 := Lib.hid (HG1.out.trans hg2)
    go_wp2
    go_ret
    exact ⟨by rw [HE.out]; rfl, HG2.out⟩
end Go.Proofs.Ytilkfgpcibdikaa
