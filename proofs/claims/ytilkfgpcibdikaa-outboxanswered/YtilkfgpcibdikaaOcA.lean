
/- The document's: time, SameNote, among. -/
import Derived.Test.YtilkfgpcibdikaaObA
import Derived.Test.YtilkfgpcibdikaaRCmpP
import Derived.Test.YtilkfgpcibdikaaRegH
namespace Go.Proofs.Ytilkfgpcibdikaa
open Go.RowKit

set_option maxHeartbeats 400000 in
theorem rTime_any (n : Int) (w : World) : Calls Try.prog 28 #[.int .i64 n] w fun e w' => e = .returned (.bool (Ox.tmB n)) ∧ w' = w := by
  have HE : Hid (Ox.tmB n = (decide (0 ≤ n) && decide (n ≤ 1000000000))) := by
    show _ = _
    unfold Ox.tmB; rw [Bool.eq_iff_iff]; simp
  generalize Ox.tmB n = R at *
  by_cases a : 0 ≤ n
  · rw [decide_eq_true a, Bool.true_and] at HE
    go_enter Try.func28, Try.ntmps28
    go_wp2
    go_ret
    exact ⟨by rw [HE.out]; rfl, rfl⟩
  · rw [decide_eq_false a, Bool.false_and] at HE
    go_enter Try.func28, Try.ntmps28
    go_wp2
    go_ret
    exact ⟨by rw [HE.out]; rfl, rfl⟩
set_option maxHeartbeats 2000000 in
set_option maxRecDepth 100000 in
theorem rSameN2_any (m m2 : Mn) (w : World) (h : MnAt w m) (h2 : MnAt w m2) :
    Calls Try.prog 33 #[m.v, m2.v] w fun e w' => e = .returned (.bool (decide (pk m.x = pk m2.x))) ∧ Gr w w' := by
  obtain ⟨⟨k, r, n, L, d, y⟩, ad, cap⟩ := m
  obtain ⟨⟨k2, r2, n2, M, d2, y2⟩, ad2, cap2⟩ := m2
  have HC : Hid (∀ w', Gr w w' → Calls Try.prog 48 #[.agg #[.int .i64 r, .int .i64 n, .slice ad L.length cap], .agg #[.int .i64 r2, .int .i64 n2, .slice ad2 M.length cap2]] w' fun e w2 => e = .returned (.bool (sameB r n L r2 n2 M)) ∧ Gr w' w2) := fun w' g => same_any r n L ad cap r2 n2 M ad2 cap2 w' (h.hp.gr g) (h2.hp.gr g) h.hl h2.hl
  have HE := Lib.hid (same_parts k r n L d y k2 r2 n2 M d2 y2 (sameB r n L r2 n2 M) rfl)
  generalize sameB r n L r2 n2 M = c at *
  clear h h2
  dsimp only [Mn.v] at *
  generalize L.length = ll at *
  generalize M.length = ml at *
  generalize decide (pk ⟨k, r, n, L, d, y⟩ = pk ⟨k2, r2, n2, M, d2, y2⟩) = R at *
  cases hk : (k == k2) with
  | false =>
    rw [hk] at HE
    go_enter Try.func33, Try.ntmps33
    go_wp2
    go_ret
    exact ⟨by rw [HE.out]; rfl, (by repeat (first | exact Gr.refl _ | refine Gr.alloc ?_ | refine Gr.drew ?_ | refine Gr.trans ?_ (by assumption)))⟩
  | true =>
    rw [hk] at HE
    go_enter Try.func33, Try.ntmps33
    go_wp2_with fail
    refine (HC.out _ ?_).mono ?_
    · exact (by repeat (first | exact Gr.refl _ | refine Gr.alloc ?_ | refine Gr.drew ?_ | refine Gr.trans ?_ (by assumption)))
    rintro e1 w1 ⟨rfl, hg1⟩
    have B1 := ((Cs.new w [.int .i64 k, .int .i64 r, .int .i64 n, .slice ad ll cap, .string d, .int .i64 y] 37 _ rfl).alloc (o := .cells #[.int .i64 k2, .int .i64 r2, .int .i64 n2, .slice ad2 ml cap2, .string d2, .int .i64 y2] 37)).gr hg1
    have D1 := (Cs.new (w.alloc (.cells #[.int .i64 k, .int .i64 r, .int .i64 n, .slice ad ll cap, .string d, .int .i64 y] 37)) [.int .i64 k2, .int .i64 r2, .int .i64 n2, .slice ad2 ml cap2, .string d2, .int .i64 y2] 37 (w.heap.size + 1) (by simp)).gr hg1
    have c4 := B1.at_ 4 _ rfl
    have c5 := B1.at_ 5 _ rfl
    have clt := B1.lt
    have d4 := D1.at_ 4 _ rfl
    have d5 := D1.at_ 5 _ rfl
    have dlt := D1.lt
    cases c with
    | false =>
      go_wp2
      go_ret
      exact ⟨by rw [HE.out]; rfl, (by repeat (first | exact Gr.refl _ | refine Gr.alloc ?_ | refine Gr.drew ?_ | refine Gr.trans ?_ (by assumption)))⟩
    | true =>
      cases hd : (d.toList == d2.toList) with
      | false =>
        rw [hd] at HE
        go_wp2
        go_ret
        exact ⟨by rw [HE.out]; rfl, (by repeat (first | exact Gr.refl _ | refine Gr.alloc ?_ | refine Gr.drew ?_ | refine Gr.trans ?_ (by assumption)))⟩
      | true =>
        rw [hd] at HE
        go_wp2
        go_ret
        exact ⟨by rw [HE.out]; rfl, (by repeat (first | exact Gr.refl _ | refine Gr.alloc ?_ | refine Gr.drew ?_ | refine Gr.trans ?_ (by assumption)))⟩

theorem hold15 {a b : World} (g : Gr a b) {v0 v1 v2 v3 v4 v5 u0 u1 u2 u3 u4 u5 : Value} {p0 p1 p2 p3 p4 p5 q0 q1 q2 q3 q4 q5 : Addr} (h0 : a.cell? p0 = some v0) (h1 : a.cell? p1 = some v1) (h2 : a.cell? p2 = some v2) (h3 : a.cell? p3 = some v3) (h4 : a.cell? p4 = some v4) (h5 : a.cell? p5 = some v5) (k0 : a.cell? q0 = some u0) (k1 : a.cell? q1 = some u1) (k2 : a.cell? q2 = some u2) (k3 : a.cell? q3 = some u3) (k4 : a.cell? q4 = some u4) (k5 : a.cell? q5 = some u5) :
    Gr a b ∧ b.cell? p0 = some v0 ∧ b.cell? p1 = some v1 ∧ b.cell? p2 = some v2 ∧ b.cell? p3 = some v3 ∧ b.cell? p4 = some v4 ∧ b.cell? p5 = some v5 ∧ b.cell? q0 = some u0 ∧ b.cell? q1 = some u1 ∧ b.cell? q2 = some u2 ∧ b.cell? q3 = some u3 ∧ b.cell? q4 = some u4 ∧ b.cell? q5 = some u5 :=
  ⟨g, g.keep h0, g.keep h1, g.keep h2, g.keep h3, g.keep h4, g.keep h5, g.keep k0, g.keep k1, g.keep k2, g.keep k3, g.keep k4, g.keep k5⟩
set_option maxHeartbeats 8000000 in
set_option maxRecDepth 100000 in
theorem rAmong_any (D : List Mi) (m : Mn) (ad : Option Addr) (cap : Nat) (w : World) (hD : ItsAt w ad D) (hn : D.length ≤ 9223372036854775807) (hm : MnAt w m) :
    Calls Try.prog 30 #[.slice ad D.length cap, m.v] w fun e w' => e = .returned (.bool (Ox.among (its D) (pk m.x))) ∧ Gr w w' := by
  have HC : Hid (∀ x ∈ D, ∀ w', Gr w w' → Calls Try.prog 33 #[x.m.v, m.v] w' fun e w2 => e = .returned (.bool (decide (pk x.m.x = pk m.x))) ∧ Gr w' w2) := fun x hx w' gr => rSameN2_any x.m m w' ((hD.nt x hx).gr gr) (hm.gr gr)
  have HD := Lib.hid hD.row
  have HA : Hid (∀ (j : Nat) (hj : j < D.length), pk D[j].m.x = pk m.x → Ox.among (its D) (pk m.x) = true) := fun j hj e => (among_its D _).2 ⟨j, hj, e⟩
  have HN : Hid ((∀ (j : Nat) (hj : j < D.length), pk D[j].m.x ≠ pk m.x) → Ox.among (its D) (pk m.x) = false) := among_no
  generalize Ox.among (its D) (pk m.x) = R at *
  generalize hp : pk m.x = p at *
  clear hD hm hp
  obtain ⟨⟨k2, r2, n2, M, d2, y2⟩, ad2, cap2⟩ := m
  dsimp only [Mn.v] at *
  generalize M.length = ml at *
  have HB0 := Lib.hid (Cs.new w [.int .i64 k2, .int .i64 r2, .int .i64 n2, .slice ad2 ml cap2, .string d2, .int .i64 y2] 37 _ rfl)
  go_enter Try.func30, Try.ntmps30
  go_wp2
  go_loopw [5] (fun s5 wr => ∃ j : Nat, s5 = .int .i64 j ∧ j ≤ D.length ∧ (∀ (i : Nat) (hi : i < D.length), i < j → pk D[i].m.x ≠ p) ∧ Gr (w.alloc (.cells #[.int .i64 k2, .int .i64 r2, .int .i64 n2, .slice ad2 ml cap2, .string d2, .int .i64 y2] 37)) wr) (fun s5 _ => D.length - (intOf s5).toNat)
  case atStart => exact ⟨0, rfl, Nat.zero_le _, fun i _ h => absurd h (Nat.not_lt_zero _), Gr.refl _⟩
  case round =>
    obtain ⟨j, rfl, hj, hno, hg'⟩ := hrel
    have HNO := Lib.hid hno
    have hg : Gr w wr := (Gr.refl w).alloc.trans hg'
    have HG := Lib.hid hg
    have HG' := Lib.hid hg'
    have B0 := HB0.out.gr hg'
    have c0 := B0.at_ 0 _ rfl
    have c1 := B0.at_ 1 _ rfl
    have c2 := B0.at_ 2 _ rfl
    have c3 := B0.at_ 3 _ rfl
    have c4 := B0.at_ 4 _ rfl
    have c5 := B0.at_ 5 _ rfl
    have cf0 := B0.fz 0 (by simp)
    have cf1 := B0.fz 1 (by simp)
    have cf2 := B0.fz 2 (by simp)
    have cf3 := B0.fz 3 (by simp)
    have cf4 := B0.fz 4 (by simp)
    have cf5 := B0.fz 5 (by simp)
    have clt := B0.lt
    clear hno B0 cf0 cf1 cf2 cf3 cf4 cf5 hg'
    by_cases hlt : j < D.length
    · obtain ⟨b, off, rfl, hbl, d0, d1, d2', d3, d4, d5, d6, d7, d8⟩ := ItsRow.at HD.out j hlt
      have d3 := hg.keep d3
      have d4 := hg.keep d4
      have d5 := hg.keep d5
      have d6 := hg.keep d6
      have d7 := hg.keep d7
      have d8 := hg.keep d8
      have hbw : b < wr.heap.size := Nat.lt_of_lt_of_le hbl hg.size
      have hji : (j : Int) < (D.length : Int) := by omega
      have hj0 : (0 : Int) ≤ (j : Int) := by omega
      have HX := Lib.hid (HC.out D[j] (List.getElem_mem hlt))
      have HY : Hid (pk D[j].m.x = p → R = true) := HA.out j hlt
      have HZ : Hid (¬ pk D[j].m.x = p → ∀ (i : Nat) (hi : i < D.length), i < j + 1 → pk D[i].m.x ≠ p) := by
        intro h i hi hij
        by_cases e : i = j
        · subst e; exact h
        · exact HNO.out i hi (by omega)
      clear hg d0 d1 d2'
      generalize D[j] = x at *
      by_cases hq : pk x.m.x = p
      · rw [decide_eq_true hq] at HX
        have HR := Lib.hid (HY.out hq)
        clear HY HZ hq
        obtain ⟨q, dd, s, ⟨⟨k, r, n, L, d, y⟩, ad, cap⟩⟩ := x
        dsimp only [Mn.v, Mi.v] at *
        generalize L.length = ll at *
        go_wp2_with fail
        refine wp_region_held_drew (S := (fun w' => Gr wr w' ∧ w'.cell? ⟨b, off + j * 9 + 3, none⟩ = some (.int .i64 k) ∧ w'.cell? ⟨b, off + j * 9 + 4, none⟩ = some (.int .i64 r) ∧ w'.cell? ⟨b, off + j * 9 + 5, none⟩ = some (.int .i64 n) ∧ w'.cell? ⟨b, off + j * 9 + 6, none⟩ = some (.slice ad ll cap) ∧ w'.cell? ⟨b, off + j * 9 + 7, none⟩ = some (.string d) ∧ w'.cell? ⟨b, off + j * 9 + 8, none⟩ = some (.int .i64 y) ∧ w'.cell? ⟨w.heap.size, 0, none⟩ = some (.int .i64 k2) ∧ w'.cell? ⟨w.heap.size, 1, none⟩ = some (.int .i64 r2) ∧ w'.cell? ⟨w.heap.size, 2, none⟩ = some (.int .i64 n2) ∧ w'.cell? ⟨w.heap.size, 3, none⟩ = some (.slice ad2 ml cap2) ∧ w'.cell? ⟨w.heap.size, 4, none⟩ = some (.string d2) ∧ w'.cell? ⟨w.heap.size, 5, none⟩ = some (.int .i64 y2))) (by kernel_rfl) (by exact hold15 (by repeat (first | exact Gr.refl _ | refine Gr.alloc ?_ | refine Gr.drew ?_ | refine Gr.trans ?_ (by assumption))) d3 d4 d5 d6 d7 d8 c0 c1 c2 c3 c4 c5) (fun hHeld => ?_)
        refine take_yes 0 12 (v := ?_) rfl rfl (by kernel_rfl) (by kernel_rfl) (by kernel_rfl) (fun _ _ _ h => h) (by rfl) ?_ hHeld ?_
        rotate_left
        · (intro w hSw; (try dsimp only at hSw); go_simp; try with_reducible rfl)
        simp only [Act.put, List.setIfInBounds_toArray, List.set_cons_zero, List.set_cons_succ]
        refine take_yes 1 13 (v := ?_) rfl rfl (by kernel_rfl) (by kernel_rfl) (by kernel_rfl) (fun _ _ _ h => h) (by rfl) ?_ hHeld ?_
        rotate_left
        · (intro w hSw; (try dsimp only at hSw); go_simp; try with_reducible rfl)
        simp only [Act.put, List.setIfInBounds_toArray, List.set_cons_zero, List.set_cons_succ]
        refine take_yes 2 14 (v := ?_) rfl rfl (by kernel_rfl) (by kernel_rfl) (by kernel_rfl) (fun _ _ _ h => h) (by rfl) ?_ hHeld ?_
        rotate_left
        · (intro w hSw; (try dsimp only at hSw); go_simp; try with_reducible rfl)
        simp only [Act.put, List.setIfInBounds_toArray, List.set_cons_zero, List.set_cons_succ]
        refine take_yes 3 15 (v := ?_) rfl rfl (by kernel_rfl) (by kernel_rfl) (by kernel_rfl) (fun _ _ _ h => h) (by rfl) ?_ hHeld ?_
        rotate_left
        · (intro w hSw; (try dsimp only at hSw); go_simp; try with_reducible rfl)
        simp only [Act.put, List.setIfInBounds_toArray, List.set_cons_zero, List.set_cons_succ]
        refine take_yes 4 16 (v := ?_) rfl rfl (by kernel_rfl) (by kernel_rfl) (by kernel_rfl) (fun _ _ _ h => h) (by rfl) ?_ hHeld ?_
        rotate_left
        · (intro w hSw; (try dsimp only at hSw); go_simp; try with_reducible rfl)
        simp only [Act.put, List.setIfInBounds_toArray, List.set_cons_zero, List.set_cons_succ]
        refine take_yes 5 17 (v := ?_) rfl rfl (by kernel_rfl) (by kernel_rfl) (by kernel_rfl) (fun _ _ _ h => h) (by rfl) ?_ hHeld ?_
        rotate_left
        · (intro w hSw; (try dsimp only at hSw); go_simp; try with_reducible rfl)
        simp only [Act.put, List.setIfInBounds_toArray, List.set_cons_zero, List.set_cons_succ]
        refine wpAnyH_ready (rs := [6]) (by kernel_rfl) (by simp) (AllReadyH.cons rfl (fun K hK => ?_) AllReadyH.nil)
        go_simp
        (go_at_call 33; refine (HX.out _ (HG.out.trans hHeld.1)).mono ?_; rintro e wn ⟨rfl, hgn⟩)
        (try go_wp2_with fail)
        refine hK.out _ _ (by exact hold15 (by repeat (first | exact Gr.refl _ | refine Gr.alloc ?_ | refine Gr.drew ?_ | refine Gr.trans ?_ (by assumption))) d3 d4 d5 d6 d7 d8 c0 c1 c2 c3 c4 c5) (fun hHeldN => ?_)
        clear hHeld hK K
        have hHeld := hHeldN
        clear hHeldN
        refine wpAnyH_done (by kernel_rfl) ?_ _
        go_wp2
        go_ret
        exact ⟨by rw [HR.out]; rfl, HG.out.trans hHeld.1⟩
      · rw [decide_eq_false hq] at HX
        have HR := Lib.hid (HZ.out hq)
        clear HY HZ hq
        obtain ⟨q, dd, s, ⟨⟨k, r, n, L, d, y⟩, ad, cap⟩⟩ := x
        dsimp only [Mn.v, Mi.v] at *
        generalize L.length = ll at *
        go_wp2_with fail
        refine wp_region_held_drew (S := (fun w' => Gr wr w' ∧ w'.cell? ⟨b, off + j * 9 + 3, none⟩ = some (.int .i64 k) ∧ w'.cell? ⟨b, off + j * 9 + 4, none⟩ = some (.int .i64 r) ∧ w'.cell? ⟨b, off + j * 9 + 5, none⟩ = some (.int .i64 n) ∧ w'.cell? ⟨b, off + j * 9 + 6, none⟩ = some (.slice ad ll cap) ∧ w'.cell? ⟨b, off + j * 9 + 7, none⟩ = some (.string d) ∧ w'.cell? ⟨b, off + j * 9 + 8, none⟩ = some (.int .i64 y) ∧ w'.cell? ⟨w.heap.size, 0, none⟩ = some (.int .i64 k2) ∧ w'.cell? ⟨w.heap.size, 1, none⟩ = some (.int .i64 r2) ∧ w'.cell? ⟨w.heap.size, 2, none⟩ = some (.int .i64 n2) ∧ w'.cell? ⟨w.heap.size, 3, none⟩ = some (.slice ad2 ml cap2) ∧ w'.cell? ⟨w.heap.size, 4, none⟩ = some (.string d2) ∧ w'.cell? ⟨w.heap.size, 5, none⟩ = some (.int .i64 y2))) (by kernel_rfl) (by exact hold15 (by repeat (first | exact Gr.refl _ | refine Gr.alloc ?_ | refine Gr.drew ?_ | refine Gr.trans ?_ (by assumption))) d3 d4 d5 d6 d7 d8 c0 c1 c2 c3 c4 c5) (fun hHeld => ?_)
        refine take_yes 0 12 (v := ?_) rfl rfl (by kernel_rfl) (by kernel_rfl) (by kernel_rfl) (fun _ _ _ h => h) (by rfl) ?_ hHeld ?_
        rotate_left
        · (intro w hSw; (try dsimp only at hSw); go_simp; try with_reducible rfl)
        simp only [Act.put, List.setIfInBounds_toArray, List.set_cons_zero, List.set_cons_succ]
        refine take_yes 1 13 (v := ?_) rfl rfl (by kernel_rfl) (by kernel_rfl) (by kernel_rfl) (fun _ _ _ h => h) (by rfl) ?_ hHeld ?_
        rotate_left
        · (intro w hSw; (try dsimp only at hSw); go_simp; try with_reducible rfl)
        simp only [Act.put, List.setIfInBounds_toArray, List.set_cons_zero, List.set_cons_succ]
        refine take_yes 2 14 (v := ?_) rfl rfl (by kernel_rfl) (by kernel_rfl) (by kernel_rfl) (fun _ _ _ h => h) (by rfl) ?_ hHeld ?_
        rotate_left
        · (intro w hSw; (try dsimp only at hSw); go_simp; try with_reducible rfl)
        simp only [Act.put, List.setIfInBounds_toArray, List.set_cons_zero, List.set_cons_succ]
        refine take_yes 3 15 (v := ?_) rfl rfl (by kernel_rfl) (by kernel_rfl) (by kernel_rfl) (fun _ _ _ h => h) (by rfl) ?_ hHeld ?_
        rotate_left
        · (intro w hSw; (try dsimp only at hSw); go_simp; try with_reducible rfl)
        simp only [Act.put, List.setIfInBounds_toArray, List.set_cons_zero, List.set_cons_succ]
        refine take_yes 4 16 (v := ?_) rfl rfl (by kernel_rfl) (by kernel_rfl) (by kernel_rfl) (fun _ _ _ h => h) (by rfl) ?_ hHeld ?_
        rotate_left
        · (intro w hSw; (try dsimp only at hSw); go_simp; try with_reducible rfl)
        simp only [Act.put, List.setIfInBounds_toArray, List.set_cons_zero, List.set_cons_succ]
        refine take_yes 5 17 (v := ?_) rfl rfl (by kernel_rfl) (by kernel_rfl) (by kernel_rfl) (fun _ _ _ h => h) (by rfl) ?_ hHeld ?_
        rotate_left
        · (intro w hSw; (try dsimp only at hSw); go_simp; try with_reducible rfl)
        simp only [Act.put, List.setIfInBounds_toArray, List.set_cons_zero, List.set_cons_succ]
        refine wpAnyH_ready (rs := [6]) (by kernel_rfl) (by simp) (AllReadyH.cons rfl (fun K hK => ?_) AllReadyH.nil)
        go_simp
        (go_at_call 33; refine (HX.out _ (HG.out.trans hHeld.1)).mono ?_; rintro e wn ⟨rfl, hgn⟩)
        (try go_wp2_with fail)
        refine hK.out _ _ (by exact hold15 (by repeat (first | exact Gr.refl _ | refine Gr.alloc ?_ | refine Gr.drew ?_ | refine Gr.trans ?_ (by assumption))) d3 d4 d5 d6 d7 d8 c0 c1 c2 c3 c4 c5) (fun hHeldN => ?_)
        clear hHeld hK K
        have hHeld := hHeldN
        clear hHeldN
        refine wpAnyH_done (by kernel_rfl) ?_ _
        have HG2 := Lib.hid (HG'.out.trans hHeld.1)
        clear hHeld d3 d4 d5 d6 d7 d8
        go_wp2
        go_roundw
        case rel => exact ⟨j + 1, by go_num, by omega, HR.out, HG2.out⟩
        case measure => simp [intOf]; omega
    · have hge : ¬ ((j : Int) < (D.length : Int)) := by omega
      have HR := Lib.hid (HN.out (fun i hi => HNO.out i hi (by omega)))
      clear hg
      go_wp2
      go_ret
      exact ⟨by rw [HR.out]; rfl, HG.out⟩
end Go.Proofs.Ytilkfgpcibdikaa
