
/- The document's Has, Answered, Anew. -/
import Derived.Test.YtilkfgpcibdikaaOcB
import Derived.Test.YtilkfgpcibdikaaObI
namespace Go.Proofs.Ytilkfgpcibdikaa
open Go.RowKit

set_option maxHeartbeats 2000000 in
set_option maxRecDepth 100000 in
theorem rHas_any (D : List Mi) (m : Mn) (ad : Option Addr) (cap : Nat) (w : World) (hD : ItsAt w ad D) (hc : D.length ≤ cap) (hn : D.length ≤ 9223372036854775807) (hm : MnAt w m) :
    Calls Try.prog 12 #[.slice ad D.length cap, m.v] w fun e w' => e = .returned (.bool (Ox.hasB okN (its D) (pk m.x))) ∧ Gr w w' := by
  have HM : Hid (∀ w', Gr w w' → Calls Try.prog 14 #[.slice ad D.length cap] w' fun e w2 => e = .returned (.int .i64 (mayE D)) ∧ Gr w' w2) := fun w' g => rMay_any D ad cap w' (hD.gr g) hc hn
  have HH : Hid (∀ w', Gr w w' → Calls Try.prog 30 #[.slice ad D.length cap, m.v] w' fun e w2 => e = .returned (.bool (Ox.among (its D) (pk m.x))) ∧ Gr w' w2) := fun w' g => rAmong_any D m ad cap w' (hD.gr g) hn (hm.gr g)
  have HE : Hid (Ox.hasB okN (its D) (pk m.x) = (Ox.mayB okN (its D) && Ox.among (its D) (pk m.x))) := rfl
  generalize Ox.hasB okN (its D) (pk m.x) = R at *
  generalize Ox.among (its D) (pk m.x) = A at *
  cases hmay : Ox.mayB okN (its D) with
  | false =>
    rw [mayE_bad hmay] at HM
    rw [hmay] at HE
    clear hmay hD hm
    obtain ⟨⟨k, r, n, L, d, y⟩, ad2, cap2⟩ := m
    dsimp only [Mn.v] at *
    go_enter Try.func12, Try.ntmps12
    go_wp2_with fail
    refine (HM.out _ ?_).mono ?_
    · exact (by repeat (first | exact Gr.refl _ | refine Gr.alloc ?_ | refine Gr.drew ?_ | refine Gr.trans ?_ (by assumption)))
    rintro e1 w1 ⟨rfl, hg1⟩
    go_wp2
    go_ret
    exact ⟨by rw [HE.out]; rfl, (by repeat (first | exact Gr.refl _ | refine Gr.alloc ?_ | refine Gr.drew ?_ | refine Gr.trans ?_ (by assumption)))⟩
  | true =>
    rw [mayE_ok hmay] at HM
    rw [hmay, Bool.true_and] at HE
    clear hmay hD hm
    obtain ⟨⟨k, r, n, L, d, y⟩, ad2, cap2⟩ := m
    dsimp only [Mn.v] at *
    generalize L.length = ll at *
    go_enter Try.func12, Try.ntmps12
    go_wp2_with fail
    refine (HM.out _ ?_).mono ?_
    · exact (by repeat (first | exact Gr.refl _ | refine Gr.alloc ?_ | refine Gr.drew ?_ | refine Gr.trans ?_ (by assumption)))
    rintro e1 w1 ⟨rfl, hg1⟩
    have HG1 : Hid (Gr w w1) := (by repeat (first | exact Gr.refl _ | refine Gr.alloc ?_ | refine Gr.drew ?_ | refine Gr.trans ?_ (by assumption)))
    have B1 := (Cs.new w [.int .i64 k, .int .i64 r, .int .i64 n, .slice ad2 ll cap2, .string d, .int .i64 y] 37 _ rfl).gr hg1
    have c0 := B1.at_ 0 _ rfl
    have c1 := B1.at_ 1 _ rfl
    have c2 := B1.at_ 2 _ rfl
    have c3 := B1.at_ 3 _ rfl
    have c4 := B1.at_ 4 _ rfl
    have c5 := B1.at_ 5 _ rfl
    have cf0 := B1.fz 0 (by simp)
    have cf1 := B1.fz 1 (by simp)
    have cf2 := B1.fz 2 (by simp)
    have cf3 := B1.fz 3 (by simp)
    have cf4 := B1.fz 4 (by simp)
    have cf5 := B1.fz 5 (by simp)
    have clt := B1.lt
    clear hg1 B1
    go_wp2_with fail
    refine (HH.out _ HG1.out).mono ?_
    rintro e2 w2 ⟨rfl, hg2⟩
    have HG2 := Lib.hid (HG1.out.trans hg2)
    go_wp2
    go_ret
    exact ⟨by rw [HE.out]; rfl, HG2.out⟩

theorem mayB_nil : Ox.mayB okN (its []) = true := by decide
set_option maxHeartbeats 8000000 in
set_option maxRecDepth 100000 in
theorem rAnswered_any (D : List Mi) (low : Int) (ad : Option Addr) (cap : Nat) (w : World) (hD : ItsAt w ad D) (hc : D.length ≤ cap) (hn : D.length ≤ 9223372036854775807) :
    Calls Try.prog 19 #[.slice ad D.length cap, .int .i64 low] w fun e w' => BxR (Ox.ans okN (its D) low) w e w' := by
  obtain ⟨i0, hi0, hz0, hz1, hz2⟩ := info_parts infoItem
  have HM : Hid (∀ w', Gr w w' → Calls Try.prog 14 #[.slice ad D.length cap] w' fun e w2 => e = .returned (.int .i64 (mayE D)) ∧ Gr w' w2) := fun w' g => rMay_any D ad cap w' (hD.gr g) hc hn
  cases hm : Ox.mayB okN (its D) with
  | false =>
    have HF : Hid (Ox.ans okN (its D) low = its []) := by show _ = _; unfold Ox.ans; rw [hm]; rfl
    rw [mayE_bad hm] at HM
    have hpos : (0 : Int) < (D.length : Int) := by
      cases D with
      | nil => rw [mayB_nil] at hm; cases hm
      | cons x l => rw [List.length_cons]; omega
    clear hm hD
    generalize D.length = ld at *
    go_enter Try.func19, Try.ntmps19
    go_wp2
    go_loopw [5, 6] (fun s5 s6 wr => s5 = .slice none 0 0 ∧ s6 = .int .i64 0 ∧ Gr w wr) (fun _ _ _ => 0)
    case atStart => exact ⟨rfl, rfl, Gr.refl _⟩
    case round =>
      obtain ⟨rfl, rfl, hg⟩ := hrel
      have HG := Lib.hid hg
      clear hg
      go_wp2_with fail
      refine (HM.out _ HG.out).mono ?_
      rintro e1 w1 ⟨rfl, hg1⟩
      have HG1 := Lib.hid (HG.out.trans hg1)
      clear hg1
      go_wp2
      go_ret
      exact ⟨none, 0, [], rfl, Bxs.nil _ _, HF.out.symm, HG1.out⟩
  | true =>
    have HF : Hid (Ox.ans okN (its D) low = its (D.filter fun x => decide (low < x.q))) := by
      show _ = _
      unfold Ox.ans
      rw [if_pos hm]
      exact (its_filt D (fun y => decide (low < y.q))).symm
    rw [mayE_ok hm] at HM
    have hl12 := mayB_len hm
    have HD := Lib.hid hD.row
    have HN := Lib.hid hD.nt
    clear hD hm
    go_enter Try.func19, Try.ntmps19
    go_wp2
    go_loopw [5, 6] (fun s5 s6 wr => ∃ (k : Nat) (a : Option Addr) (c : Nat) (E : List Mi), s6 = .int .i64 k ∧ s5 = .slice a E.length c ∧ k ≤ D.length ∧ E.length ≤ k ∧ E = (D.take k).filter (fun x => decide (low < x.q)) ∧ Bxs wr w.heap.size (.slice a E.length c) E ∧ Gr w wr) (fun _ s6 _ => D.length - (intOf s6).toNat)
    case atStart => exact ⟨0, none, 0, [], rfl, rfl, Nat.zero_le _, Nat.le_refl _, by simp, Bxs.nil _ _, Gr.refl _⟩
    case round =>
      obtain ⟨k, a, c, E, rfl, rfl, hk, hE, hEl, hbx, hg⟩ := hrel
      have HG0 := Lib.hid hg
      have HB0 := Lib.hid hbx
      have HEl := Lib.hid hEl
      have HEk : Hid (E.length ≤ k) := hE
      have hEb : E.length ≤ 1000 := by omega
      clear hbx hEl hE hg
      by_cases hlt : k < D.length
      · have hki : (k : Int) < (D.length : Int) := by omega
        have hk0 : (0 : Int) ≤ (k : Int) := by omega
        go_wp2_with fail
        refine (HM.out _ HG0.out).mono ?_
        rintro e1 w1 ⟨rfl, hg1⟩
        have hg := HG0.out.trans hg1
        have HG := Lib.hid hg
        have HB := Lib.hid (HB0.out.gr hg1)
        clear HG0 HB0 hg1
        obtain ⟨b, off, rfl, hbl, d0, d1, d2, d3, d4, d5, d6, d7, d8⟩ := ItsRow.at HD.out k hlt
        have d0 := hg.keep d0
        have d1 := hg.keep d1
        have d2 := hg.keep d2
        have d3 := hg.keep d3
        have d4 := hg.keep d4
        have d5 := hg.keep d5
        have d6 := hg.keep d6
        have d7 := hg.keep d7
        have d8 := hg.keep d8
        have hbw : b < w1.heap.size := Nat.lt_of_lt_of_le hbl hg.size
        have HNx := Lib.hid (HN.out D[k] (List.getElem_mem hlt))
        have HT : Hid ((D.take (k + 1)).filter (fun x => decide (low < x.q)) = (D.take k).filter (fun x => decide (low < x.q)) ++ [D[k]].filter (fun x => decide (low < x.q))) := by
          show _ = _
          rw [List.take_succ_eq_append_getElem hlt, List.filter_append]
        clear hg
        generalize D[k] = x at *
        by_cases hp : low < x.q
        · have HT2 : Hid ((D.take (k + 1)).filter (fun x => decide (low < x.q)) = E ++ [x]) := by
            show _ = _
            rw [HT.out, ← HEl.out, List.filter_cons, decide_eq_true hp]; rfl
          clear HT HEl
          obtain ⟨q, dd, s, ⟨⟨k0, r, n, L, dt, y⟩, ax, cx⟩⟩ := x
          dsimp only [Mn.v, Mi.v] at *
          have HOw := Lib.hid (HB.out.gr ((Gr.refl w1).alloc (o := .cells #[.int .i64 q, .int .i64 dd, .int .i64 s, .int .i64 k0, .int .i64 r, .int .i64 n, .slice ax L.length cx, .string dt, .int .i64 y] 48)))
          have HM4 := Lib.hid ((HNx.out.gr HG.out).gr ((Gr.refl w1).alloc (o := .cells #[.int .i64 q, .int .i64 dd, .int .i64 s, .int .i64 k0, .int .i64 r, .int .i64 n, .slice ax L.length cx, .string dt, .int .i64 y] 48)))
          have HG4 : Hid (Gr w (w1.alloc (.cells #[.int .i64 q, .int .i64 dd, .int .i64 s, .int .i64 k0, .int .i64 r, .int .i64 n, .slice ax L.length cx, .string dt, .int .i64 y] 48))) := HG.out.alloc
          have hnw := i_new w1 ⟨q, dd, s, ⟨⟨k0, r, n, L, dt, y⟩, ax, cx⟩⟩ 48
          rw [show (iC ⟨q, dd, s, ⟨⟨k0, r, n, L, dt, y⟩, ax, cx⟩⟩).toArray = #[.int .i64 q, .int .i64 dd, .int .i64 s, .int .i64 k0, .int .i64 r, .int .i64 n, .slice ax L.length cx, .string dt, .int .i64 y] from rfl] at hnw
          have HNw := Lib.hid hnw
          have HAp : Hid (L ≠ [] → ∀ p, ax = some p → (Value.slice a E.length c).ownBlock ≠ some p.block) := by
            intro hne p e kk
            have h1 := (HB.out.own.lt _ kk).1
            have h2 := hops_lt HNx.out.hp hne e
            omega
          have hlen4 : w.heap.size ≤ w1.heap.size := HG.out.size
          clear hnw HNx
          have hm1 : E.length + 1 ≤ maxLen := by unfold maxLen; omega
          go_wp2_with (first
            | (at_builtin; refine wpList_append_own_at _ rfl _ _ 22 rfl w.heap.size 48 i0 (.agg #[.int .i64 0, .int .i64 0, .int .i64 0, .int .i64 0, .int .i64 0, .int .i64 0, .slice none 0 0, .string ⟨#[]⟩, .int .i64 0]) 9 96 Try.underlying22 hi0 hz0 hz1 hz2 rfl (by decide) _ _ _ rfl HOw.out.own ⟨w1.heap.size, 0, none⟩ 1 1 ([(⟨q, dd, s, ⟨⟨k0, r, n, L, dt, y⟩, ax, cx⟩⟩ : Mi)].flatMap iC) rfl rfl HNw.out (i_one _) hm1 (by omega) (by simp; omega) ?_)
            | fail)
          intro v' w5 hown' hgrow _ hat
          have hmo := Bxs.more (x := ⟨q, dd, s, ⟨⟨k0, r, n, L, dt, y⟩, ax, cx⟩⟩) HOw.out HM4.out HAp.out hown' hgrow (by simpa using hat)
          obtain ⟨a5, c5, rfl⟩ := own_slice3 hmo
          have HMo := Lib.hid hmo
          have HG5 := Lib.hid (HOw.out.grown HG4.out hgrow (Nat.le_refl _))
          clear hmo hown' hgrow hat HOw HM4 HNw HAp d0 d1 d2 d3 d4 d5 d6 d7 d8
          go_wp2
          go_roundw
          case rel => exact ⟨k + 1, a5, c5, E ++ [(⟨q, dd, s, ⟨⟨k0, r, n, L, dt, y⟩, ax, cx⟩⟩ : Mi)], by go_num, rfl, by omega, by have := HEk.out; simp; omega, HT2.out.symm, HMo.out, HG5.out⟩
          case measure => simp [intOf]; omega
        · have HT2 : Hid ((D.take (k + 1)).filter (fun x => decide (low < x.q)) = E) := by
            show _ = _
            rw [HT.out, ← HEl.out, List.filter_cons, decide_eq_false hp]; simp
          clear HT HEl
          obtain ⟨q, dd, s, ⟨⟨k0, r, n, L, dt, y⟩, ax, cx⟩⟩ := x
          dsimp only at *
          clear d1 d2 d3 d4 d5 d6 d7 d8
          go_wp2
          go_roundw
          case rel => exact ⟨k + 1, a, c, E, by go_num, rfl, by omega, by have := HEk.out; omega, HT2.out.symm, HB.out, HG.out⟩
          case measure => simp [intOf]; omega
      · have hge : ¬ ((k : Int) < (D.length : Int)) := by omega
        have HL : Hid (its E = Ox.ans okN (its D) low) := by
          show _ = _
          rw [HEl.out, HF.out, List.take_of_length_le (by omega)]
        go_wp2
        go_ret
        exact ⟨a, c, E, rfl, HB0.out, HL.out, HG0.out⟩

set_option maxHeartbeats 8000000 in
set_option maxRecDepth 100000 in
theorem rAnew_any (D : List Mi) (now : Int) (ad : Option Addr) (cap : Nat) (w : World) (hD : ItsAt w ad D) (hc : D.length ≤ cap) (hn : D.length ≤ 9223372036854775807) :
    Calls Try.prog 21 #[.slice ad D.length cap, .int .i64 now] w fun e w' => BxR (Ox.anew okN (its D) now) w e w' := by
  obtain ⟨i0, hi0, hz0, hz1, hz2⟩ := info_parts infoItem
  have HM : Hid (∀ w', Gr w w' → Calls Try.prog 14 #[.slice ad D.length cap] w' fun e w2 => e = .returned (.int .i64 (mayE D)) ∧ Gr w' w2) := fun w' g => rMay_any D ad cap w' (hD.gr g) hc hn
  have HT : Hid (∀ w', Calls Try.prog 28 #[.int .i64 now] w' fun e w2 => e = .returned (.bool (Ox.tmB now)) ∧ w2 = w') := fun w' => rTime_any now w'
  cases hm : Ox.mayB okN (its D) with
  | false =>
    have HF : Hid (Ox.anew okN (its D) now = its []) := by show _ = _; unfold Ox.anew; rw [hm]; rfl
    rw [mayE_bad hm] at HM
    clear hm hD
    go_enter Try.func21, Try.ntmps21
    go_wp2_with fail
    refine (HM.out _ ?_).mono ?_
    · exact (by repeat (first | exact Gr.refl _ | refine Gr.alloc ?_ | refine Gr.drew ?_ | refine Gr.trans ?_ (by assumption)))
    rintro e1 w1 ⟨rfl, hg1⟩
    go_wp2
    go_ret
    exact ⟨none, 0, [], rfl, Bxs.nil _ _, HF.out.symm, (by repeat (first | exact Gr.refl _ | refine Gr.alloc ?_ | refine Gr.drew ?_ | refine Gr.trans ?_ (by assumption)))⟩
  | true =>
    rw [mayE_ok hm] at HM
    cases ht : Ox.tmB now with
    | false =>
      have HF : Hid (Ox.anew okN (its D) now = its []) := by show _ = _; unfold Ox.anew; rw [hm, ht]; rfl
      rw [ht] at HT
      clear hm hD ht
      go_enter Try.func21, Try.ntmps21
      go_wp2_with fail
      refine (HM.out _ ?_).mono ?_
      · exact (by repeat (first | exact Gr.refl _ | refine Gr.alloc ?_ | refine Gr.drew ?_ | refine Gr.trans ?_ (by assumption)))
      rintro e1 w1 ⟨rfl, hg1⟩
      go_wp2_with fail
      refine (HT.out _).mono ?_
      rintro e2 w2 ⟨rfl, hw2⟩; obtain rfl := hw2.symm
      go_wp2
      go_ret
      exact ⟨none, 0, [], rfl, Bxs.nil _ _, HF.out.symm, (by repeat (first | exact Gr.refl _ | refine Gr.alloc ?_ | refine Gr.drew ?_ | refine Gr.trans ?_ (by assumption)))⟩
    | true =>
      have HF : Hid (Ox.anew okN (its D) now = Ox.num now 1 (its D)) := by show _ = _; unfold Ox.anew; rw [if_pos ⟨hm, ht⟩]
      rw [ht] at HT
      have hl12 := mayB_len hm
      have HD := Lib.hid hD.row
      have HN := Lib.hid hD.nt
      clear hm hD ht
      go_enter Try.func21, Try.ntmps21
      go_wp2_with fail
      refine (HM.out _ ?_).mono ?_
      · exact (by repeat (first | exact Gr.refl _ | refine Gr.alloc ?_ | refine Gr.drew ?_ | refine Gr.trans ?_ (by assumption)))
      rintro e1 w1 ⟨rfl, hg1⟩
      have HG1 : Hid (Gr w w1) := (by repeat (first | exact Gr.refl _ | refine Gr.alloc ?_ | refine Gr.drew ?_ | refine Gr.trans ?_ (by assumption)))
      clear hg1 HM
      go_wp2_with fail
      refine (HT.out _).mono ?_
      rintro e2 w2 ⟨rfl, hw2⟩; obtain rfl := hw2.symm
      go_wp2
      go_loopw [5, 6] (fun s5 s18 wr => ∃ (k : Nat) (a : Option Addr) (c : Nat) (E : List Mi), s18 = .int .i64 k ∧ s5 = .slice a E.length c ∧ k ≤ D.length ∧ E.length = k ∧ its E = Ox.num now 1 ((its D).take k) ∧ Bxs wr w.heap.size (.slice a E.length c) E ∧ Gr w wr) (fun _ s18 _ => D.length - (intOf s18).toNat)
      case atStart => exact ⟨0, none, 0, [], rfl, rfl, Nat.zero_le _, rfl, by simp [its, Ox.num], Bxs.nil _ _, HG1.out⟩
      case round =>
        clear HG1
        obtain ⟨k, a, c, E, rfl, rfl, hk, hE, hEl, hbx, hg⟩ := hrel
        have HG := Lib.hid hg
        have HB := Lib.hid hbx
        have HEl := Lib.hid hEl
        have HEk : Hid (E.length = k) := hE
        have hEb : E.length ≤ 1000 := by omega
        clear hbx hEl hE
        by_cases hlt : k < D.length
        · obtain ⟨b, off, rfl, hbl, d0, d1, d2, d3, d4, d5, d6, d7, d8⟩ := ItsRow.at HD.out k hlt
          have d3 := hg.keep d3
          have d4 := hg.keep d4
          have d5 := hg.keep d5
          have d6 := hg.keep d6
          have d7 := hg.keep d7
          have d8 := hg.keep d8
          have hbw : b < wr.heap.size := Nat.lt_of_lt_of_le hbl hg.size
          have hki : (k : Int) < (D.length : Int) := by omega
          have HT := Lib.hid (num_take_succ now D k hlt)
          have HNx := Lib.hid (HN.out D[k] (List.getElem_mem hlt))
          clear hg d0 d1 d2
          generalize D[k] = x at *
          obtain ⟨q, dd, s, ⟨⟨k0, r, n, L, dt, y⟩, ax, cx⟩⟩ := x
          dsimp only [Mn.v, Mi.v] at *
          have HOw := Lib.hid (HB.out.gr ((Gr.refl wr).alloc (o := .cells #[.int .i64 ((k : Int) + 1), .int .i64 now, .int .i64 0, .int .i64 k0, .int .i64 r, .int .i64 n, .slice ax L.length cx, .string dt, .int .i64 y] 48)))
          have HM4 := Lib.hid ((HNx.out.gr HG.out).gr ((Gr.refl wr).alloc (o := .cells #[.int .i64 ((k : Int) + 1), .int .i64 now, .int .i64 0, .int .i64 k0, .int .i64 r, .int .i64 n, .slice ax L.length cx, .string dt, .int .i64 y] 48)))
          have HG4 : Hid (Gr w (wr.alloc (.cells #[.int .i64 ((k : Int) + 1), .int .i64 now, .int .i64 0, .int .i64 k0, .int .i64 r, .int .i64 n, .slice ax L.length cx, .string dt, .int .i64 y] 48))) := HG.out.alloc
          have hnw := i_new wr ⟨(k : Int) + 1, now, 0, ⟨⟨k0, r, n, L, dt, y⟩, ax, cx⟩⟩ 48
          rw [show (iC ⟨(k : Int) + 1, now, 0, ⟨⟨k0, r, n, L, dt, y⟩, ax, cx⟩⟩).toArray = #[.int .i64 ((k : Int) + 1), .int .i64 now, .int .i64 0, .int .i64 k0, .int .i64 r, .int .i64 n, .slice ax L.length cx, .string dt, .int .i64 y] from rfl] at hnw
          have HNw := Lib.hid hnw
          have HAp : Hid (L ≠ [] → ∀ p, ax = some p → (Value.slice a E.length c).ownBlock ≠ some p.block) := by
            intro hne p e kk
            have h1 := (HB.out.own.lt _ kk).1
            have h2 := hops_lt HNx.out.hp hne e
            omega
          have hlen4 : w.heap.size ≤ wr.heap.size := HG.out.size
          clear hnw HNx
          have hm1 : E.length + 1 ≤ maxLen := by unfold maxLen; omega
          go_wp2_with (first
            | (at_builtin; refine wpList_append_own_at _ rfl _ _ 22 rfl w.heap.size 48 i0 (.agg #[.int .i64 0, .int .i64 0, .int .i64 0, .int .i64 0, .int .i64 0, .int .i64 0, .slice none 0 0, .string ⟨#[]⟩, .int .i64 0]) 9 96 Try.underlying22 hi0 hz0 hz1 hz2 rfl (by decide) _ _ _ rfl HOw.out.own ⟨wr.heap.size, 0, none⟩ 1 1 ([(⟨(k : Int) + 1, now, 0, ⟨⟨k0, r, n, L, dt, y⟩, ax, cx⟩⟩ : Mi)].flatMap iC) rfl rfl HNw.out (i_one _) hm1 (by omega) (by simp; omega) ?_)
            | fail)
          intro v' w5 hown' hgrow _ hat
          have hmo := Bxs.more (x := ⟨(k : Int) + 1, now, 0, ⟨⟨k0, r, n, L, dt, y⟩, ax, cx⟩⟩) HOw.out HM4.out HAp.out hown' hgrow (by simpa using hat)
          obtain ⟨a5, c5, rfl⟩ := own_slice3 hmo
          have HMo := Lib.hid hmo
          have HG5 := Lib.hid (HOw.out.grown HG4.out hgrow (Nat.le_refl _))
          have HL5 : Hid (its (E ++ [(⟨(k : Int) + 1, now, 0, ⟨⟨k0, r, n, L, dt, y⟩, ax, cx⟩⟩ : Mi)]) = Ox.num now 1 ((its D).take (k + 1))) := by
            show _ = _
            rw [its_app, HEl.out, HT.out, show (1 : Int) + (k : Int) = (k : Int) + 1 by omega]; rfl
          clear hmo hown' hgrow hat HOw HM4 HNw HAp d3 d4 d5 d6 d7 d8
          go_wp2
          go_roundw
          case rel => exact ⟨k + 1, a5, c5, E ++ [(⟨(k : Int) + 1, now, 0, ⟨⟨k0, r, n, L, dt, y⟩, ax, cx⟩⟩ : Mi)], by go_num, rfl, by omega, by have := HEk.out; simp; omega, HL5.out, HMo.out, HG5.out⟩
          case measure => simp [intOf]; omega
        · have hge : ¬ ((k : Int) < (D.length : Int)) := by omega
          have HL : Hid (its E = Ox.anew okN (its D) now) := by
            show _ = _
            rw [HEl.out, HF.out, List.take_of_length_le (by rw [its_len]; omega)]
          go_wp2
          go_ret
          exact ⟨a, c, E, rfl, HB.out, HL.out, HG.out⟩
end Go.Proofs.Ytilkfgpcibdikaa
