/- Parts of these proofs, laid together. -/
import Derived.Test.YthfbpilfdfploaaGreatGJ
import Derived.Test.YthfbpilfdfploaaGreatGG
import Derived.Test.YthfbpilfdfploaaGreatGC
import Derived.Test.YthfbpilfdfploaaGreatGI
import Derived.Deep.DeepCutAuto
import Derived.Test.YthfbpilfdfploaaGreatGB
import Derived.ProofKit
import Derived.ChangeSame
import Derived.LaidMore
import Derived.OpenShut
import Derived.ChangeSlices
import Derived.ShutString
import Derived.SizedLaws
import Derived.Deep.Strs
namespace Go.Proofs.YthfbpilfdfploaaGreat
open Go.RowKit

variable {Z : Nat → Prop}
set_option maxHeartbeats 2000000 in
set_option maxRecDepth 100000 in
theorem rHas_any (D : List Mi) (m : Mn) (ad : Option Addr) (cap : Nat) (w : World) (hD : ItsAt Z w ad D) (hc : D.length ≤ cap) (hn : D.length ≤ 9223372036854775807) (hm : MnAt Z w m) :
    Calls Tryz.prog 43 #[.slice ad D.length cap, m.v] w fun e w' => e = .returned (.bool (Ox.hasB okN (its D) (pk m.x))) ∧ Gr w w' := by
  have HM : Hid (∀ w', Gr w w' → Calls Tryz.prog 48 #[.slice ad D.length cap] w' fun e w2 => e = .returned (.int .i64 (oMayE D)) ∧ Gr w' w2) := fun w' g => rMay_any D ad cap w' (hD.gr g) hc hn
  have HH : Hid (∀ w', Gr w w' → Calls Tryz.prog 50 #[.slice ad D.length cap, m.v] w' fun e w2 => e = .returned (.bool (Ox.among (its D) (pk m.x))) ∧ Gr w' w2) := fun w' g => rAmong_any D m ad cap w' (hD.gr g) hn (hm.gr g)
  have HE : Hid (Ox.hasB okN (its D) (pk m.x) = (Ox.mayB okN (its D) && Ox.among (its D) (pk m.x))) := rfl
  generalize Ox.hasB okN (its D) (pk m.x) = R at *
  generalize Ox.among (its D) (pk m.x) = A at *
  cases hmay : Ox.mayB okN (its D) with
  | false =>
    rw [oMayE_bad hmay] at HM
    rw [hmay] at HE
    clear hmay hD hm
    obtain ⟨⟨k, r, n, L, d, y⟩, ad2, cap2⟩ := m
    dsimp only [Mn.v] at *
    go_enter Tryz.func43, Tryz.ntmps43
    go_wp2_with fail
    refine (HM.out _ ?_).mono ?_
    · exact (by repeat(first|exact Gr.r _|refine Gr.a ?_|refine Gr.d ?_|refine Gr.t ?_ (by assumption)))
    rintro e1 w1 ⟨rfl, hg1⟩
    go_wp2
    go_ret
    exact ⟨by rw [HE.out]; rfl, (by repeat(first|exact Gr.r _|refine Gr.a ?_|refine Gr.d ?_|refine Gr.t ?_ (by assumption)))⟩
  | true =>
    rw [oMayE_ok hmay] at HM
    rw [hmay, Bool.true_and] at HE
    clear hmay hD hm
    obtain ⟨⟨k, r, n, L, d, y⟩, ad2, cap2⟩ := m
    dsimp only [Mn.v] at *
    generalize L.length = ll at *
    go_enter Tryz.func43, Tryz.ntmps43
    go_wp2_with fail
    refine (HM.out _ ?_).mono ?_
    · exact (by repeat(first|exact Gr.r _|refine Gr.a ?_|refine Gr.d ?_|refine Gr.t ?_ (by assumption)))
    rintro e1 w1 ⟨rfl, hg1⟩
    have HG1 : Hid (Gr w w1) := (by repeat(first|exact Gr.r _|refine Gr.a ?_|refine Gr.d ?_|refine Gr.t ?_ (by assumption)))
    have B1 := (Cs.new w [.int .i64 k, .int .i64 r, .int .i64 n, .slice ad2 ll cap2, .string d, .int .i64 y] 36 _ rfl).gr hg1
    have c0 := B1.at_ 0 _ rfl
    have c1 := B1.at_ 1 _ rfl
    have c2 := B1.at_ 2 _ rfl
    have c3 := B1.at_ 3 _ rfl
    have c4 := B1.at_ 4 _ rfl
    have c5 := B1.at_ 5 _ rfl
    have cf0 := B1.fz 0 (by simp)
    have cf1 := B1.fz 1 (by simp)
    have cf2 := B1.fz 2 (by simp)
    have cf3 := B1.fz 3 (by simp)
    have cf4 := B1.fz 4 (by simp)
    have cf5 := B1.fz 5 (by simp)
    have clt := B1.lt
    clear hg1 B1
    go_wp2_with fail
    refine (HH.out _ HG1.out).mono ?_
    rintro e2 w2 ⟨rfl, hg2⟩
    have HG2 := Lib.hid (HG1.out.trans hg2)
    go_wp2
    go_ret
    exact ⟨by rw [HE.out]; rfl, HG2.out⟩

theorem mayB_nil : Ox.mayB okN (its []) = true := by decide
set_option maxHeartbeats 8000000 in
set_option maxRecDepth 100000 in
theorem rAnswered_any (D : List Mi) (low : Int) (ad : Option Addr) (cap : Nat) (w : World) (hD : ItsAt Z w ad D) (hc : D.length ≤ cap) (hn : D.length ≤ 9223372036854775807) :
    Calls Tryz.prog 34 #[.slice ad D.length cap, .int .i64 low] w fun e w' => BxR Z (Ox.ans okN (its D) low) w e w' := by
  obtain ⟨i0, hi0, hz0, hz1, hz2⟩ := info_parts infoItem
  have HM : Hid (∀ w', Gr w w' → Calls Tryz.prog 48 #[.slice ad D.length cap] w' fun e w2 => e = .returned (.int .i64 (oMayE D)) ∧ Gr w' w2) := fun w' g => rMay_any D ad cap w' (hD.gr g) hc hn
  cases hm : Ox.mayB okN (its D) with
  | false =>
    have HF : Hid (Ox.ans okN (its D) low = its []) := by show _ = _; unfold Ox.ans; rw [hm]; rfl
    rw [oMayE_bad hm] at HM
    have hpos : (0 : Int) < (D.length : Int) := by
      cases D with
      | nil => rw [mayB_nil] at hm; cases hm
      | cons x l => rw [List.length_cons]; omega
    clear hm hD
    generalize D.length = ld at *
    go_enter Tryz.func34, Tryz.ntmps34
    go_wp2
    go_loopw [5, 6] (fun s5 s6 wr => s5 = .slice none 0 0 ∧ s6 = .int .i64 0 ∧ Gr w wr) (fun _ _ _ => 0)
    case atStart => exact ⟨rfl, rfl, Gr.refl _⟩
    case round =>
      obtain ⟨rfl, rfl, hg⟩ := hrel
      have HG := Lib.hid hg
      clear hg
      go_wp2_with fail
      refine (HM.out _ HG.out).mono ?_
      rintro e1 w1 ⟨rfl, hg1⟩
      have HG1 := Lib.hid (HG.out.trans hg1)
      clear hg1
      go_wp2
      go_ret
      exact ⟨none, 0, [], rfl, Bxs.nil _ _, HF.out.symm, HG1.out⟩
  | true =>
    have HF : Hid (Ox.ans okN (its D) low = its (D.filter fun x => decide (low < x.q))) := by
      show _ = _
      unfold Ox.ans
      rw [if_pos hm]
      exact (its_filt D (fun y => decide (low < y.q))).symm
    rw [oMayE_ok hm] at HM
    have hl12 := mayB_len hm
    have HD := Lib.hid hD.row
    have HN := Lib.hid hD.nt
    clear hD hm
    go_enter Tryz.func34, Tryz.ntmps34
    go_wp2
    go_loopw [5, 6] (fun s5 s6 wr => ∃ (k : Nat) (a : Option Addr) (c : Nat) (E : List Mi), s6 = .int .i64 k ∧ s5 = .slice a E.length c ∧ k ≤ D.length ∧ E.length ≤ k ∧ E = (D.take k).filter (fun x => decide (low < x.q)) ∧ Bxs Z wr w.heap.size (.slice a E.length c) E ∧ Gr w wr) (fun _ s6 _ => D.length - (intOf s6).toNat)
    case atStart => exact ⟨0, none, 0, [], rfl, rfl, Nat.zero_le _, Nat.le_refl _, by simp, Bxs.nil _ _, Gr.refl _⟩
    case round =>
      obtain ⟨k, a, c, E, rfl, rfl, hk, hE, hEl, hbx, hg⟩ := hrel
      have HG0 := Lib.hid hg
      have HB0 := Lib.hid hbx
      have HEl := Lib.hid hEl
      have HEk : Hid (E.length ≤ k) := hE
      have hEb : E.length ≤ 1000 := by omega
      clear hbx hEl hE hg
      by_cases hlt : k < D.length
      · have hki : (k : Int) < (D.length : Int) := by omega
        have hk0 : (0 : Int) ≤ (k : Int) := by omega
        go_wp2_with fail
        refine (HM.out _ HG0.out).mono ?_
        rintro e1 w1 ⟨rfl, hg1⟩
        have hg := HG0.out.trans hg1
        have HG := Lib.hid hg
        have HB := Lib.hid (HB0.out.gr hg1)
        clear HG0 HB0 hg1
        obtain ⟨b, off, rfl, hbl, d0, d1, d2, d3, d4, d5, d6, d7, d8⟩ := ItsRow.at HD.out k hlt
        have d0 := hg.keep d0
        have d1 := hg.keep d1
        have d2 := hg.keep d2
        have d3 := hg.keep d3
        have d4 := hg.keep d4
        have d5 := hg.keep d5
        have d6 := hg.keep d6
        have d7 := hg.keep d7
        have d8 := hg.keep d8
        have hbw : b < w1.heap.size := Nat.lt_of_lt_of_le hbl hg.size
        have HNx := Lib.hid (HN.out D[k] (List.getElem_mem hlt))
        have HT : Hid ((D.take (k + 1)).filter (fun x => decide (low < x.q)) = (D.take k).filter (fun x => decide (low < x.q)) ++ [D[k]].filter (fun x => decide (low < x.q))) := by
          show _ = _
          rw [List.take_succ_eq_append_getElem hlt, List.filter_append]
        clear hg
        generalize D[k] = x at *
        by_cases hp : low < x.q
        · have HT2 : Hid ((D.take (k + 1)).filter (fun x => decide (low < x.q)) = E ++ [x]) := by
            show _ = _
            rw [HT.out, ← HEl.out, List.filter_cons, decide_eq_true hp]; rfl
          clear HT HEl
          obtain ⟨q, dd, s, ⟨⟨k0, r, n, L, dt, y⟩, ax, cx⟩⟩ := x
          dsimp only [Mn.v, Mi.v] at *
          have HOw := Lib.hid (HB.out.gr ((Gr.refl w1).alloc (o := .cells #[.int .i64 q, .int .i64 dd, .int .i64 s, .int .i64 k0, .int .i64 r, .int .i64 n, .slice ax L.length cx, .string dt, .int .i64 y] 73)))
          have HM4 := Lib.hid ((HNx.out.gr HG.out).gr ((Gr.refl w1).alloc (o := .cells #[.int .i64 q, .int .i64 dd, .int .i64 s, .int .i64 k0, .int .i64 r, .int .i64 n, .slice ax L.length cx, .string dt, .int .i64 y] 73)))
          have HG4 : Hid (Gr w (w1.alloc (.cells #[.int .i64 q, .int .i64 dd, .int .i64 s, .int .i64 k0, .int .i64 r, .int .i64 n, .slice ax L.length cx, .string dt, .int .i64 y] 73))) := HG.out.alloc
          have hnw := i_new w1 ⟨q, dd, s, ⟨⟨k0, r, n, L, dt, y⟩, ax, cx⟩⟩ 73
          rw [show (iC ⟨q, dd, s, ⟨⟨k0, r, n, L, dt, y⟩, ax, cx⟩⟩).toArray = #[.int .i64 q, .int .i64 dd, .int .i64 s, .int .i64 k0, .int .i64 r, .int .i64 n, .slice ax L.length cx, .string dt, .int .i64 y] from rfl] at hnw
          have HNw := Lib.hid hnw
          have HAp : Hid (L ≠ [] → ∀ p, ax = some p → (Value.slice a E.length c).ownBlock ≠ some p.block) := by
            intro hne p e kk
            have h1 := (HB.out.own.lt _ kk).1
            have h2 := hops_lt HNx.out.hp hne e
            omega
          have hlen4 : w.heap.size ≤ w1.heap.size := HG.out.size
          clear hnw HNx
          have hm1 : E.length + 1 ≤ maxLen := by unfold maxLen; omega
          go_wp2_with (first
            | (at_builtin; refine wpList_append_own_at _ rfl _ _ 53 rfl w.heap.size 73 i0 (.agg #[.int .i64 0, .int .i64 0, .int .i64 0, .int .i64 0, .int .i64 0, .int .i64 0, .slice none 0 0, .string ⟨#[]⟩, .int .i64 0]) 9 96 Tryz.underlying53 hi0 hz0 hz1 hz2 rfl (by decide) _ _ _ rfl HOw.out.own ⟨w1.heap.size, 0, none⟩ 1 1 ([(⟨q, dd, s, ⟨⟨k0, r, n, L, dt, y⟩, ax, cx⟩⟩ : Mi)].flatMap iC) rfl rfl HNw.out (i_one _) hm1 (by omega) (by simp; omega) ?_)
            | fail)
          intro v' w5 hown' hgrow _ hat
          have hmo := Bxs.more (x := ⟨q, dd, s, ⟨⟨k0, r, n, L, dt, y⟩, ax, cx⟩⟩) HOw.out HM4.out HAp.out hown' hgrow (by simpa using hat)
          obtain ⟨a5, c5, rfl⟩ := own_slice3 hmo
          have HMo := Lib.hid hmo
          have HG5 := Lib.hid (HOw.out.grown HG4.out hgrow (Nat.le_refl _))
          clear hmo hown' hgrow hat HOw HM4 HNw HAp d0 d1 d2 d3 d4 d5 d6 d7 d8
          go_wp2
          go_roundw
          case rel => exact ⟨k + 1, a5, c5, E ++ [(⟨q, dd, s, ⟨⟨k0, r, n, L, dt, y⟩, ax, cx⟩⟩ : Mi)], by go_num, rfl, by omega, by have := HEk.out; simp; omega, HT2.out.symm, HMo.out, HG5.out⟩
          case measure => simp [intOf]; omega
        · have HT2 : Hid ((D.take (k + 1)).filter (fun x => decide (low < x.q)) = E) := by
            show _ = _
            rw [HT.out, ← HEl.out, List.filter_cons, decide_eq_false hp]; simp
          clear HT HEl
          obtain ⟨q, dd, s, ⟨⟨k0, r, n, L, dt, y⟩, ax, cx⟩⟩ := x
          dsimp only at *
          clear d1 d2 d3 d4 d5 d6 d7 d8
          go_wp2
          go_roundw
          case rel => exact ⟨k + 1, a, c, E, by go_num, rfl, by omega, by have := HEk.out; omega, HT2.out.symm, HB.out, HG.out⟩
          case measure => simp [intOf]; omega
      · have hge : ¬ ((k : Int) < (D.length : Int)) := by omega
        have HL : Hid (its E = Ox.ans okN (its D) low) := by
          show _ = _
          rw [HEl.out, HF.out, List.take_of_length_le (by omega)]
        go_wp2
        go_ret
        exact ⟨a, c, E, rfl, HB0.out, HL.out, HG0.out⟩

set_option maxHeartbeats 8000000 in
set_option maxRecDepth 100000 in
theorem rAnew_any (D : List Mi) (now : Int) (ad : Option Addr) (cap : Nat) (w : World) (hD : ItsAt Z w ad D) (hc : D.length ≤ cap) (hn : D.length ≤ 9223372036854775807) :
    Calls Tryz.prog 33 #[.slice ad D.length cap, .int .i64 now] w fun e w' => BxR Z (Ox.anew okN (its D) now) w e w' := by
  obtain ⟨i0, hi0, hz0, hz1, hz2⟩ := info_parts infoItem
  have HM : Hid (∀ w', Gr w w' → Calls Tryz.prog 48 #[.slice ad D.length cap] w' fun e w2 => e = .returned (.int .i64 (oMayE D)) ∧ Gr w' w2) := fun w' g => rMay_any D ad cap w' (hD.gr g) hc hn
  have HT : Hid (∀ w', Calls Tryz.prog 49 #[.int .i64 now] w' fun e w2 => e = .returned (.bool (Ox.tmB now)) ∧ w2 = w') := fun w' => rTime_any now w'
  cases hm : Ox.mayB okN (its D) with
  | false =>
    have HF : Hid (Ox.anew okN (its D) now = its []) := by show _ = _; unfold Ox.anew; rw [hm]; rfl
    rw [oMayE_bad hm] at HM
    clear hm hD
    go_enter Tryz.func33, Tryz.ntmps33
    go_wp2_with fail
    refine (HM.out _ ?_).mono ?_
    · exact (by repeat(first|exact Gr.r _|refine Gr.a ?_|refine Gr.d ?_|refine Gr.t ?_ (by assumption)))
    rintro e1 w1 ⟨rfl, hg1⟩
    go_wp2
    go_ret
    exact ⟨none, 0, [], rfl, Bxs.nil _ _, HF.out.symm, (by repeat(first|exact Gr.r _|refine Gr.a ?_|refine Gr.d ?_|refine Gr.t ?_ (by assumption)))⟩
  | true =>
    rw [oMayE_ok hm] at HM
    cases ht : Ox.tmB now with
    | false =>
      have HF : Hid (Ox.anew okN (its D) now = its []) := by show _ = _; unfold Ox.anew; rw [hm, ht]; rfl
      rw [ht] at HT
      clear hm hD ht
      go_enter Tryz.func33, Tryz.ntmps33
      go_wp2_with fail
      refine (HM.out _ ?_).mono ?_
      · exact (by repeat(first|exact Gr.r _|refine Gr.a ?_|refine Gr.d ?_|refine Gr.t ?_ (by assumption)))
      rintro e1 w1 ⟨rfl, hg1⟩
      go_wp2_with fail
      refine (HT.out _).mono ?_
      rintro e2 w2 ⟨rfl, hw2⟩; obtain rfl := hw2.symm
      go_wp2
      go_ret
      exact ⟨none, 0, [], rfl, Bxs.nil _ _, HF.out.symm, (by repeat(first|exact Gr.r _|refine Gr.a ?_|refine Gr.d ?_|refine Gr.t ?_ (by assumption)))⟩
    | true =>
      have HF : Hid (Ox.anew okN (its D) now = Ox.num now 1 (its D)) := by show _ = _; unfold Ox.anew; rw [if_pos ⟨hm, ht⟩]
      rw [ht] at HT
      have hl12 := mayB_len hm
      have HD := Lib.hid hD.row
      have HN := Lib.hid hD.nt
      clear hm hD ht
      go_enter Tryz.func33, Tryz.ntmps33
      go_wp2_with fail
      refine (HM.out _ ?_).mono ?_
      · exact (by repeat(first|exact Gr.r _|refine Gr.a ?_|refine Gr.d ?_|refine Gr.t ?_ (by assumption)))
      rintro e1 w1 ⟨rfl, hg1⟩
      have HG1 : Hid (Gr w w1) := (by repeat(first|exact Gr.r _|refine Gr.a ?_|refine Gr.d ?_|refine Gr.t ?_ (by assumption)))
      clear hg1 HM
      go_wp2_with fail
      refine (HT.out _).mono ?_
      rintro e2 w2 ⟨rfl, hw2⟩; obtain rfl := hw2.symm
      go_wp2
      go_loopw [5, 6] (fun s5 s18 wr => ∃ (k : Nat) (a : Option Addr) (c : Nat) (E : List Mi), s18 = .int .i64 k ∧ s5 = .slice a E.length c ∧ k ≤ D.length ∧ E.length = k ∧ its E = Ox.num now 1 ((its D).take k) ∧ Bxs Z wr w.heap.size (.slice a E.length c) E ∧ Gr w wr) (fun _ s18 _ => D.length - (intOf s18).toNat)
      case atStart => exact ⟨0, none, 0, [], rfl, rfl, Nat.zero_le _, rfl, by simp [its, Ox.num], Bxs.nil _ _, HG1.out⟩
      case round =>
        clear HG1
        obtain ⟨k, a, c, E, rfl, rfl, hk, hE, hEl, hbx, hg⟩ := hrel
        have HG := Lib.hid hg
        have HB := Lib.hid hbx
        have HEl := Lib.hid hEl
        have HEk : Hid (E.length = k) := hE
        have hEb : E.length ≤ 1000 := by omega
        clear hbx hEl hE
        by_cases hlt : k < D.length
        · obtain ⟨b, off, rfl, hbl, d0, d1, d2, d3, d4, d5, d6, d7, d8⟩ := ItsRow.at HD.out k hlt
          have d3 := hg.keep d3
          have d4 := hg.keep d4
          have d5 := hg.keep d5
          have d6 := hg.keep d6
          have d7 := hg.keep d7
          have d8 := hg.keep d8
          have hbw : b < wr.heap.size := Nat.lt_of_lt_of_le hbl hg.size
          have hki : (k : Int) < (D.length : Int) := by omega
          have HT := Lib.hid (num_take_succ now D k hlt)
          have HNx := Lib.hid (HN.out D[k] (List.getElem_mem hlt))
          clear hg d0 d1 d2
          generalize D[k] = x at *
          obtain ⟨q, dd, s, ⟨⟨k0, r, n, L, dt, y⟩, ax, cx⟩⟩ := x
          dsimp only [Mn.v, Mi.v] at *
          have HOw := Lib.hid (HB.out.gr ((Gr.refl wr).alloc (o := .cells #[.int .i64 ((k : Int) + 1), .int .i64 now, .int .i64 0, .int .i64 k0, .int .i64 r, .int .i64 n, .slice ax L.length cx, .string dt, .int .i64 y] 73)))
          have HM4 := Lib.hid ((HNx.out.gr HG.out).gr ((Gr.refl wr).alloc (o := .cells #[.int .i64 ((k : Int) + 1), .int .i64 now, .int .i64 0, .int .i64 k0, .int .i64 r, .int .i64 n, .slice ax L.length cx, .string dt, .int .i64 y] 73)))
          have HG4 : Hid (Gr w (wr.alloc (.cells #[.int .i64 ((k : Int) + 1), .int .i64 now, .int .i64 0, .int .i64 k0, .int .i64 r, .int .i64 n, .slice ax L.length cx, .string dt, .int .i64 y] 73))) := HG.out.alloc
          have hnw := i_new wr ⟨(k : Int) + 1, now, 0, ⟨⟨k0, r, n, L, dt, y⟩, ax, cx⟩⟩ 73
          rw [show (iC ⟨(k : Int) + 1, now, 0, ⟨⟨k0, r, n, L, dt, y⟩, ax, cx⟩⟩).toArray = #[.int .i64 ((k : Int) + 1), .int .i64 now, .int .i64 0, .int .i64 k0, .int .i64 r, .int .i64 n, .slice ax L.length cx, .string dt, .int .i64 y] from rfl] at hnw
          have HNw := Lib.hid hnw
          have HAp : Hid (L ≠ [] → ∀ p, ax = some p → (Value.slice a E.length c).ownBlock ≠ some p.block) := by
            intro hne p e kk
            have h1 := (HB.out.own.lt _ kk).1
            have h2 := hops_lt HNx.out.hp hne e
            omega
          have hlen4 : w.heap.size ≤ wr.heap.size := HG.out.size
          clear hnw HNx
          have hm1 : E.length + 1 ≤ maxLen := by unfold maxLen; omega
          go_wp2_with (first
            | (at_builtin; refine wpList_append_own_at _ rfl _ _ 53 rfl w.heap.size 73 i0 (.agg #[.int .i64 0, .int .i64 0, .int .i64 0, .int .i64 0, .int .i64 0, .int .i64 0, .slice none 0 0, .string ⟨#[]⟩, .int .i64 0]) 9 96 Tryz.underlying53 hi0 hz0 hz1 hz2 rfl (by decide) _ _ _ rfl HOw.out.own ⟨wr.heap.size, 0, none⟩ 1 1 ([(⟨(k : Int) + 1, now, 0, ⟨⟨k0, r, n, L, dt, y⟩, ax, cx⟩⟩ : Mi)].flatMap iC) rfl rfl HNw.out (i_one _) hm1 (by omega) (by simp; omega) ?_)
            | fail)
          intro v' w5 hown' hgrow _ hat
          have hmo := Bxs.more (x := ⟨(k : Int) + 1, now, 0, ⟨⟨k0, r, n, L, dt, y⟩, ax, cx⟩⟩) HOw.out HM4.out HAp.out hown' hgrow (by simpa using hat)
          obtain ⟨a5, c5, rfl⟩ := own_slice3 hmo
          have HMo := Lib.hid hmo
          have HG5 := Lib.hid (HOw.out.grown HG4.out hgrow (Nat.le_refl _))
          have HL5 : Hid (its (E ++ [(⟨(k : Int) + 1, now, 0, ⟨⟨k0, r, n, L, dt, y⟩, ax, cx⟩⟩ : Mi)]) = Ox.num now 1 ((its D).take (k + 1))) := by
            show _ = _
            rw [its_app, HEl.out, HT.out, show (1 : Int) + (k : Int) = (k : Int) + 1 by omega]; rfl
          clear hmo hown' hgrow hat HOw HM4 HNw HAp d3 d4 d5 d6 d7 d8
          go_wp2
          go_roundw
          case rel => exact ⟨k + 1, a5, c5, E ++ [(⟨(k : Int) + 1, now, 0, ⟨⟨k0, r, n, L, dt, y⟩, ax, cx⟩⟩ : Mi)], by go_num, rfl, by omega, by have := HEk.out; simp; omega, HL5.out, HMo.out, HG5.out⟩
          case measure => simp [intOf]; omega
        · have hge : ¬ ((k : Int) < (D.length : Int)) := by omega
          have HL : Hid (its E = Ox.anew okN (its D) now) := by
            show _ = _
            rw [HEl.out, HF.out, List.take_of_length_le (by rw [its_len]; omega)]
          go_wp2
          go_ret
          exact ⟨a, c, E, rfl, HB.out, HL.out, HG.out⟩
end Go.Proofs.YthfbpilfdfploaaGreat
namespace Go.Proofs.YthfbpilfdfploaaGreat
variable {P : Program} {md : Region.Mode} {ops : Array Oper} {Q : Exit → Act → World → Prop}

/- whatever order is picked from here on; S holds till number s has come -/
def wpAnyL (P : Program) (md : Region.Mode) (ops : Array Oper) (Q : Exit → Act → World → Prop) (s : Nat) (S : World → Prop) : Nat → Array Bool → Act → World → Prop
  | 0, listed, a, w => Region.ready md ops listed = [] ∧ Q .normal a w
  | fuel + 1, listed, a, w =>
    (Region.ready md ops listed = [] → Q .normal a w) ∧
    ∀ i ∈ Region.ready md ops listed, wpOp P ops Q i (fun a' w' => ((listed.setIfInBounds i true).getD s true = false → S w') ∧ wpAnyL P md ops Q s S fuel (listed.setIfInBounds i true) a' w') a w
variable {s : Nat} {S : World → Prop}
theorem wpAny_of_L : ∀ (fuel : Nat) (listed : Array Bool) (a : Act) (w : World), wpAnyL P md ops Q s S fuel listed a w → wpAny P md ops Q fuel listed a w
  | 0, _, _, _, h => h
  | fuel + 1, _, _, _, h => ⟨h.1, fun i hi => wpOp_mono (fun a' w' h' => wpAny_of_L fuel _ a' w' h'.2) (h.2 i hi)⟩
theorem getD_ne {l : Array Bool} {i j : Nat} (h : i ≠ j) : (l.setIfInBounds i true).getD j true = l.getD j true := getD_set_ne true h

theorem wpAnyL_first {i : Nat} {oi os : Oper} {v : Value} (hi : ops[i]? = some oi) (hsel : ∀ (j : Nat) (o : Oper) cs b, ops[j]? = some o → o.op ≠ .select cs b)
    (hQ : ∀ c a w, Q (.panic c) (a.put oi.dst v) w → Q (.panic c) a w) (his : i ≠ s) (hos : ops[s]? = some os) (hdep : ∃ e ∈ os.after, Region.binds md e = true ∧ e.on = i) :
    ∀ (fuel : Nat) (listed : Array Bool) (a : Act) (w : World),
      (∀ j oj, ops[j]? = some oj → j ≠ i → listed.getD j true = false → (∀ e ∈ oj.after, Region.binds md e = true → e.on ≠ i) → oi.apart ops oj = true) →
      i ∈ Region.ready md ops listed → YieldsIf P ops S oi v a → listed.getD s true = false → S w →
      wpAnyL P md ops Q s S fuel (listed.setIfInBounds i true) (a.put oi.dst v) w → wpAnyL P md ops Q s S (fuel + 1) listed a w := by
  intro fuel
  induction fuel with
  | zero =>
    intro listed a w _ hr hy _ hS H
    refine ⟨fun h => (by rw [h] at hr; cases hr), fun j hj => ?_⟩
    by_cases hji : j = i
    · subst hji; exact hy.wpOp hi hS ⟨fun _ => hS, H⟩
    · have := ready_mono hj hji
      rw [H.1] at this
      cases this
  | succ fuel ih =>
    intro listed a w hfree hr hy hls hS H
    refine ⟨fun h => (by rw [h] at hr; cases hr), fun j hj => ?_⟩
    by_cases hji : j = i
    · subst hji; exact hy.wpOp hi hS ⟨fun _ => hS, H⟩
    · have h1 := H.2 j (ready_mono hj hji)
      obtain ⟨hjun, oj, hoj, hall⟩ := mem_ready.1 hj
      have hnot : ∀ e ∈ oj.after, Region.binds md e = true → e.on ≠ i := fun e he hb heq => by
        have h1 := hall e he hb
        have h0 := (mem_ready.1 hr).1
        rw [heq] at h1
        rcases Nat.lt_or_ge i listed.size with h' | h'
        · simp [h'] at h0 h1; rw [h0] at h1; cases h1
        · simp [Array.getElem?_eq_none h'] at h1
      have hjs : j ≠ s := fun e => by
        subst e
        rw [hos] at hoj
        cases hoj
        obtain ⟨e, he, hb, hon⟩ := hdep
        exact hnot e he hb hon
      have h2 := wpOp_putIf hoj (hfree j oj hoj hji hjun hnot) (fun cs b => hsel i oi cs b hi) (fun cs b => hsel j oj cs b hoj) hQ hy h1
      have hfree' : ∀ k ok, ops[k]? = some ok → k ≠ i → (listed.setIfInBounds j true).getD k true = false →
          (∀ e ∈ ok.after, Region.binds md e = true → e.on ≠ i) → oi.apart ops ok = true := fun k ok hk hki hun hno => by
        refine hfree k ok hk hki ?_ hno
        by_cases hjk : j = k
        · subst hjk; exact hjun
        · rw [getD_set_ne true hjk] at hun; exact hun
      have hls' : (listed.setIfInBounds j true).getD s true = false := by rw [getD_ne hjs]; exact hls
      have hls2 : ((listed.setIfInBounds i true).setIfInBounds j true).getD s true = false := by rw [getD_ne hjs, getD_ne his]; exact hls
      refine wpOp_mono (fun a' w' h3 => ⟨fun _ => h3.2.1 hls2, ih (listed.setIfInBounds j true) a' w' hfree' (ready_mono hr (Ne.symm hji)) h3.1 hls' (h3.2.1 hls2) ?_⟩) h2
      rw [Array.setIfInBounds_comm _ _ hji]
      exact h3.2.2
theorem wpAnyL_firstW {i : Nat} {oi : Oper} {v : Value} (hi : ops[i]? = some oi) (hsel : ∀ (j : Nat) (o : Oper) cs b, ops[j]? = some o → o.op ≠ .select cs b)
    (hQ : ∀ c a w, Q (.panic c) (a.put oi.dst v) w → Q (.panic c) a w) (his : i ≠ s) :
    ∀ (fuel : Nat) (listed : Array Bool) (a : Act) (w : World),
      (∀ j oj, ops[j]? = some oj → j ≠ i → listed.getD j true = false → (∀ e ∈ oj.after, Region.binds md e = true → e.on ≠ i) → oi.apart ops oj = true) →
      i ∈ Region.ready md ops listed → YieldsIf P ops (fun _ => True) oi v a → (listed.getD s true = false → S w) →
      wpAnyL P md ops Q s S fuel (listed.setIfInBounds i true) (a.put oi.dst v) w → wpAnyL P md ops Q s S (fuel + 1) listed a w := by
  intro fuel
  induction fuel with
  | zero =>
    intro listed a w _ hr hy hS H
    refine ⟨fun h => (by rw [h] at hr; cases hr), fun j hj => ?_⟩
    by_cases hji : j = i
    · subst hji; exact hy.wpOp hi trivial ⟨fun h => hS (by rw [getD_ne his] at h; exact h), H⟩
    · have := ready_mono hj hji
      rw [H.1] at this
      cases this
  | succ fuel ih =>
    intro listed a w hfree hr hy hS H
    refine ⟨fun h => (by rw [h] at hr; cases hr), fun j hj => ?_⟩
    by_cases hji : j = i
    · subst hji; exact hy.wpOp hi trivial ⟨fun h => hS (by rw [getD_ne his] at h; exact h), H⟩
    · have h1 := H.2 j (ready_mono hj hji)
      obtain ⟨hjun, oj, hoj, hall⟩ := mem_ready.1 hj
      have hnot : ∀ e ∈ oj.after, Region.binds md e = true → e.on ≠ i := fun e he hb heq => by
        have h1 := hall e he hb
        have h0 := (mem_ready.1 hr).1
        rw [heq] at h1
        rcases Nat.lt_or_ge i listed.size with h' | h'
        · simp [h'] at h0 h1; rw [h0] at h1; cases h1
        · simp [Array.getElem?_eq_none h'] at h1
      have h2 := wpOp_putIf hoj (hfree j oj hoj hji hjun hnot) (fun cs b => hsel i oi cs b hi) (fun cs b => hsel j oj cs b hoj) hQ hy h1
      have hfree' : ∀ k ok, ops[k]? = some ok → k ≠ i → (listed.setIfInBounds j true).getD k true = false →
          (∀ e ∈ ok.after, Region.binds md e = true → e.on ≠ i) → oi.apart ops ok = true := fun k ok hk hki hun hno => by
        refine hfree k ok hk hki ?_ hno
        by_cases hjk : j = k
        · subst hjk; exact hjun
        · rw [getD_set_ne true hjk] at hun; exact hun
      have hsame : ((listed.setIfInBounds i true).setIfInBounds j true).getD s true = (listed.setIfInBounds j true).getD s true := by
        rw [Array.setIfInBounds_comm _ _ (Ne.symm hji), getD_ne his]
      refine wpOp_mono (fun a' w' h3 => ⟨fun h => h3.2.1 (by rw [hsame]; exact h), ih (listed.setIfInBounds j true) a' w' hfree' (ready_mono hr (Ne.symm hji)) h3.1 (fun h => h3.2.1 (by rw [hsame]; exact h)) ?_⟩) h2
      rw [Array.setIfInBounds_comm _ _ hji]
      exact h3.2.2

def waits (md : Region.Mode) (ops : Array Oper) (s i : Nat) : Bool := match ops[s]? with | some o => o.after.any fun e => Region.binds md e && e.on == i | none => false
theorem waits_spec {i : Nat} (h : waits md ops s i = true) : ∃ os, ops[s]? = some os ∧ ∃ e ∈ os.after, Region.binds md e = true ∧ e.on = i := by
  unfold waits at h
  cases hs : ops[s]? with
  | none => rw [hs] at h; cases h
  | some o =>
    rw [hs] at h
    obtain ⟨e, he, hb⟩ := Array.any_eq_true'.1 h
    simp only [Bool.and_eq_true, beq_iff_eq] at hb
    exact ⟨o, rfl, e, he, hb.1, hb.2⟩
/- taken first, under S -/
theorem takeS (i d : Nat) {oi : Oper} {v : Value} {fuel : Nat} {listed : Array Bool} {a : Act} {w : World} (hi : ops[i]? = some oi) (hd : oi.dst = some d) (his : i ≠ s) (hwt : waits md ops s i = true)
    (hs : Region.noSelect ops = true) (hf : Region.free md ops listed i = true) (hr : (Region.ready md ops listed).contains i = true) (hls : listed.getD s true = false)
    (hQ : ∀ c a w, Q (.panic c) (a.put (some d) v) w → Q (.panic c) a w) (hw : Region.wanted oi (yielded ops a.tmps) = true) (hy : ∀ w, S w → (execOp a.eval oi).run P w = .ok (.value v) w) (hS : S w)
    (h : wpAnyL P md ops Q s S fuel (listed.setIfInBounds i true) (a.put (some d) v) w) : wpAnyL P md ops Q s S (fuel + 1) listed a w := by
  rw [← hd] at hQ h
  obtain ⟨os, hos, hdep⟩ := waits_spec hwt
  exact wpAnyL_first hi (Region.noSelect_spec hs) hQ his hos hdep fuel listed a w (Region.free_spec hi hf) (by simpa using hr) (Or.inl ⟨hw, hy⟩) hls hS h
/- taken first, whatever the memory -/
theorem takeW (i d : Nat) {oi : Oper} {v : Value} {fuel : Nat} {listed : Array Bool} {a : Act} {w : World} (hi : ops[i]? = some oi) (hd : oi.dst = some d) (his : i ≠ s)
    (hs : Region.noSelect ops = true) (hf : Region.free md ops listed i = true) (hr : (Region.ready md ops listed).contains i = true)
    (hQ : ∀ c a w, Q (.panic c) (a.put (some d) v) w → Q (.panic c) a w) (hw : Region.wanted oi (yielded ops a.tmps) = true) (hy : ∀ w, (execOp a.eval oi).run P w = .ok (.value v) w) (hS : listed.getD s true = false → S w)
    (h : wpAnyL P md ops Q s S fuel (listed.setIfInBounds i true) (a.put (some d) v) w) : wpAnyL P md ops Q s S (fuel + 1) listed a w := by
  rw [← hd] at hQ h
  exact wpAnyL_firstW hi (Region.noSelect_spec hs) hQ his fuel listed a w (Region.free_spec hi hf) (by simpa using hr) (Or.inl ⟨hw, fun w _ => hy w⟩) hS h
/- the only one that may come up -/
theorem stepL (i : Nat) {o : Oper} {fuel : Nat} {listed : Array Bool} {a : Act} {w : World} (hr : Region.ready md ops listed = [i]) (ho : ops[i]? = some o)
    (h : ∀ K' : Act → World → Prop, Shut (∀ a w, ((listed.setIfInBounds i true).getD s true = false → S w) → wpAnyL P md ops Q s S fuel (listed.setIfInBounds i true) a w → K' a w) → if Region.wanted o (yielded ops a.tmps) = true then Oper.wp P o a w K' Q else K' (a.put o.dst undef) w) :
    wpAnyL P md ops Q s S (fuel + 1) listed a w := by
  refine ⟨fun h0 => (by rw [hr] at h0; cases h0), fun j hj => ?_⟩
  rw [hr] at hj
  obtain rfl : j = i := by simpa using hj
  exact wpOp_step ho (fun K' hK => h K' (fun a w hS hW => hK a w ⟨hS, hW⟩))
theorem stepC (i : Nat) {o : Oper} {fuel : Nat} {listed : Array Bool} {a : Act} {w : World} (hr : Region.ready md ops listed = [i]) (ho : ops[i]? = some o)
    (h : ∀ K' : Act → World → Prop, Shut (∀ a w, S w → (S w → wpAnyL P md ops Q s S fuel (listed.setIfInBounds i true) a w) → K' a w) → if Region.wanted o (yielded ops a.tmps) = true then Oper.wp P o a w K' Q else K' (a.put o.dst undef) w) :
    wpAnyL P md ops Q s S (fuel + 1) listed a w :=
  stepL i hr ho (fun K' hK => h K' (fun a w hS hW => hK.out a w (fun _ => hS) (hW hS)))
theorem listed_done {l : Array Bool} {s : Nat} (h1 : l.getD s true = true) (h : l.getD s true = false) {S : Prop} : S := by rw [h1] at h; cases h
theorem stepS {o : Oper} {fuel : Nat} {listed : Array Bool} {a : Act} {w : World} (hr : Region.ready md ops listed = [s]) (ho : ops[s]? = some o) (hl : (listed.setIfInBounds s true).getD s true = true)
    (h : ∀ K' : Act → World → Prop, Shut (∀ a w, wpAnyL P md ops Q s S fuel (listed.setIfInBounds s true) a w → K' a w) → if Region.wanted o (yielded ops a.tmps) = true then Oper.wp P o a w K' Q else K' (a.put o.dst undef) w) :
    wpAnyL P md ops Q s S (fuel + 1) listed a w :=
  stepL s hr ho (fun K' hK => h K' (fun a w hW => hK.out a w (fun h => listed_done hl h) hW))
theorem doneL {listed : Array Bool} {a : Act} {w : World} (hr : Region.ready md ops listed = []) (h : Q .normal a w) : ∀ fuel, wpAnyL P md ops Q s S fuel listed a w
  | 0 => ⟨hr, h⟩
  | _ + 1 => ⟨fun _ => h, by rw [hr]; simp⟩
theorem beginL (s : Nat) (S : World → Prop) {id : Nat} {a : Act} {w : World} (hm : P.follows .mixedOrders = true) (hS : S w.drew)
    (h : S w.drew → wpAnyL P .any ops Q s S ops.size (Array.replicate ops.size false) a w.drew) : (Code.region id ops true).wp P Q a w :=
  wp_region_any hm (wpAny_of_L (s := s) (S := S) _ _ _ _ (h hS))
end Go.Proofs.YthfbpilfdfploaaGreat
namespace Go.Proofs.YthfbpilfdfploaaGreat
open Go.RowKit
open Wn (Wd)

/- what Take answers -/
def TkR (w w' : World) (e : Ending) (r : Wd × Bool × Int) : Prop :=
  ∃ ad cap, e = .returned (.tuple #[wdV r.1.low ad r.1.seen.length cap, .bool r.2.1, .int .i64 r.2.2]) ∧ WdAt w' ad cap r.1 ∧ (∀ a, ad = some a → w.heap.size ≤ a.block ∧ a.block < w'.heap.size) ∧ Gr w w'
theorem wd_zero (w : World) : WdAt w none 0 ⟨0, []⟩ := ⟨IntsAt.nil, by simp, by simp, fun _ => rfl, by simp, by simp⟩
theorem TkR.no {w w' : World} (c : Int) (h : Gr w w') : TkR w w' (.returned (.tuple #[wdV 0 none 0 0, .bool false, .int .i64 c])) (⟨0, []⟩, false, c) := ⟨none, 0, rfl, wd_zero _, (fun a e => by cases e), h⟩
theorem gr_set2 {a b : World} (h : Gr a b) (g : Nat) (hg : a.heap.size ≤ g) (x y : Value) : Gr a ((b.setCell ⟨g, 0, none⟩ x).setCell ⟨g, 1, none⟩ y) := (h.set _ hg x).set _ hg y
set_option maxHeartbeats 8000000 in
set_option maxRecDepth 100000 in
theorem take_bad (W : Wd) (q : Int) (ad : Option Addr) (cap : Nat) (w : World) (h : WdAt w ad cap W) (hb : ¬ (Wn.may W = true ∧ 1 ≤ q ∧ q ≤ 1000000000)) :
    Calls Tryz.prog 54 #[wdV W.low ad W.seen.length cap, .int .i64 q] w fun e w' => TkR w w' e (⟨0, []⟩, false, 2) := by
  have HM : Hid (∀ w', Gr w w' → Calls Tryz.prog 78 #[wdV W.low ad W.seen.length cap] w' fun e w2 => e = .returned (.int .i64 (mayE W)) ∧ Gr w' w2) := fun w' g => may_any W ad cap w' (h.gr g)
  clear h
  generalize W.seen.length = n at *
  generalize W.low = low at *
  by_cases hm : Wn.may W = true
  · have e0 : mayE W = 0 := by unfold mayE; rw [if_pos hm]
    rw [e0] at HM
    by_cases h1 : q < 1
    · clear hb
      go_enter Tryz.func54, Tryz.ntmps54
      go_wp2_with fail
      refine (HM.out _ (by repeat(first|exact Gr.r _|refine Gr.a ?_|refine Gr.d ?_|refine Gr.t ?_ (by assumption)))).mono ?_
      rintro e w1 ⟨rfl, hg1⟩
      have G1 : Hid (Gr w w1) := (Gr.refl w).alloc.alloc.trans hg1
      obtain ⟨c0, c1, f0, f1, lt⟩ := (Bx2.new (w.alloc (.cells #[.int .i64 low, .slice ad n cap] 56)) (.int .i64 0) (.slice none 0 0) 56 (w.heap.size + 1) (by simp)).gr hg1
      clear hg1
      go_wp2
      exact bodyPost_ret (v := .tuple #[wdV 0 none 0 0, .bool false, .int .i64 2]) (by simp [results, Tryz.results54, go_sem, *]) rfl (TkR.no 2 (gr_set2 G1.out _ (by omega) _ _))
    · have h2 : 1000000000 < q := by
        rcases Int.lt_or_le 1000000000 q with c | c
        · exact c
        · exact absurd ⟨hm, by omega, c⟩ hb
      clear hb
      go_enter Tryz.func54, Tryz.ntmps54
      go_wp2_with fail
      refine (HM.out _ (by repeat(first|exact Gr.r _|refine Gr.a ?_|refine Gr.d ?_|refine Gr.t ?_ (by assumption)))).mono ?_
      rintro e w1 ⟨rfl, hg1⟩
      have G1 : Hid (Gr w w1) := (Gr.refl w).alloc.alloc.trans hg1
      obtain ⟨c0, c1, f0, f1, lt⟩ := (Bx2.new (w.alloc (.cells #[.int .i64 low, .slice ad n cap] 56)) (.int .i64 0) (.slice none 0 0) 56 (w.heap.size + 1) (by simp)).gr hg1
      clear hg1
      go_wp2
      exact bodyPost_ret (v := .tuple #[wdV 0 none 0 0, .bool false, .int .i64 2]) (by simp [results, Tryz.results54, go_sem, *]) rfl (TkR.no 2 (gr_set2 G1.out _ (by omega) _ _))
  · have e0 : mayE W = 2 := by unfold mayE; rw [if_neg hm]
    rw [e0] at HM
    clear hb hm e0
    go_enter Tryz.func54, Tryz.ntmps54
    go_wp2_with fail
    refine (HM.out _ (by repeat(first|exact Gr.r _|refine Gr.a ?_|refine Gr.d ?_|refine Gr.t ?_ (by assumption)))).mono ?_
    rintro e w1 ⟨rfl, hg1⟩
    have G1 : Hid (Gr w w1) := (Gr.refl w).alloc.alloc.trans hg1
    obtain ⟨c0, c1, f0, f1, lt⟩ := (Bx2.new (w.alloc (.cells #[.int .i64 low, .slice ad n cap] 56)) (.int .i64 0) (.slice none 0 0) 56 (w.heap.size + 1) (by simp)).gr hg1
    clear hg1
    go_wp2
    exact bodyPost_ret (v := .tuple #[wdV 0 none 0 0, .bool false, .int .i64 2]) (by simp [results, Tryz.results54, go_sem, *]) rfl (TkR.no 2 (gr_set2 G1.out _ (by omega) _ _))
set_option maxHeartbeats 8000000 in
set_option maxRecDepth 100000 in
theorem take_far (W : Wd) (q : Int) (ad : Option Addr) (cap : Nat) (w : World) (h : WdAt w ad cap W) (hm : Wn.may W = true) (h1 : 1 ≤ q) (h2 : q ≤ 1000000000) (hf : W.low + 16 < q) :
    Calls Tryz.prog 54 #[wdV W.low ad W.seen.length cap, .int .i64 q] w fun e w' => TkR w w' e (⟨0, []⟩, false, 180) := by
  have HM : Hid (∀ w', Gr w w' → Calls Tryz.prog 78 #[wdV W.low ad W.seen.length cap] w' fun e w2 => e = .returned (.int .i64 (mayE W)) ∧ Gr w' w2) := fun w' g => may_any W ad cap w' (h.gr g)
  have hlo := ((Wn.may_iff W).1 hm).1
  have e0 : mayE W = 0 := by unfold mayE; rw [if_pos hm]
  rw [e0] at HM
  clear h hm e0
  generalize W.seen.length = n at *
  generalize W.low = low at *
  go_enter Tryz.func54, Tryz.ntmps54
  go_wp2_with fail
  refine (HM.out _ (by repeat(first|exact Gr.r _|refine Gr.a ?_|refine Gr.d ?_|refine Gr.t ?_ (by assumption)))).mono ?_
  rintro e w1 ⟨rfl, hg1⟩
  have G1 : Hid (Gr w w1) := (Gr.refl w).alloc.alloc.trans hg1
  obtain ⟨c0, c1, f0, f1, lt⟩ := (Bx2.new (w.alloc (.cells #[.int .i64 low, .slice ad n cap] 56)) (.int .i64 0) (.slice none 0 0) 56 (w.heap.size + 1) (by simp)).gr hg1
  obtain ⟨d0, d1, g0, g1, dt⟩ := ((Bx2.new w (.int .i64 low) (.slice ad n cap) 56 w.heap.size rfl).gr (Gr.refl _).alloc).gr hg1
  clear hg1
  go_wp2
  exact bodyPost_ret (v := .tuple #[wdV 0 none 0 0, .bool false, .int .i64 180]) (by simp [results, Tryz.results54, go_sem, *]) rfl (TkR.no 180 (gr_set2 G1.out _ (by omega) _ _))
set_option maxHeartbeats 8000000 in
set_option maxRecDepth 100000 in
theorem take_had (W : Wd) (q : Int) (ad : Option Addr) (cap : Nat) (w : World) (h : WdAt w ad cap W) (hm : Wn.may W = true) (h1 : 1 ≤ q) (h2 : q ≤ 1000000000) (hf : ¬ (W.low + 16 < q)) (hh : Wn.has W q = true) :
    Calls Tryz.prog 54 #[wdV W.low ad W.seen.length cap, .int .i64 q] w fun e w' => TkR w w' e (W, false, 0) := by
  have HM : Hid (∀ w', Gr w w' → Calls Tryz.prog 78 #[wdV W.low ad W.seen.length cap] w' fun e w2 => e = .returned (.int .i64 (mayE W)) ∧ Gr w' w2) := fun w' g => may_any W ad cap w' (h.gr g)
  obtain ⟨hlo, hup, _⟩ := (Wn.may_iff W).1 hm
  have hle := Wn.may_len hm
  have HC : Hid (∀ w', Gr w w' → Calls Tryz.prog 79 #[.slice ad W.seen.length cap] w' fun e w2 => ∃ v, e = .returned v ∧ w2.ownsRow w'.heap.size 3 1 v W.seen.length (intV W.seen) ∧ Gr w' w2) := fun w' g => copy_any W.seen ad cap w' (h.row.gr g) (by omega) h.non
  have HS : Hid (∀ w' ad' cap', IntsAt w' ad' W.seen → Calls Tryz.prog 80 #[.slice ad' W.seen.length cap', .int .i64 q] w' fun e w2 => e = .returned (.tuple #[.int .i64 (Wn.pos q W.seen : Nat), .bool (decide (q ∈ W.seen))]) ∧ Gr w' w2) := fun w' ad' cap' hL => search_any W.seen ad' cap' q w' hL (by omega) hup
  have e0 : mayE W = 0 := by unfold mayE; rw [if_pos hm]
  rw [e0] at HM
  have hor : decide (q ∈ W.seen) = true ∨ (decide (q ∈ W.seen) = false ∧ q ≤ W.low) := by
    by_cases c : q ∈ W.seen
    · exact Or.inl (decide_eq_true c)
    · rcases (Wn.has_iff W q).1 hh with h | h
      · exact absurd h c
      · exact Or.inr ⟨decide_eq_false c, h.2⟩
  have HL0 := Lib.hid h.lo0
  have HL1 := Lib.hid h.lo1
  have HLn := Lib.hid h.len
  clear h hm e0 hh hup
  obtain ⟨low, l⟩ := W
  simp only at *
  go_enter Tryz.func54, Tryz.ntmps54
  go_wp2_with fail
  refine (HM.out _ (by repeat(first|exact Gr.r _|refine Gr.a ?_|refine Gr.d ?_|refine Gr.t ?_ (by assumption)))).mono ?_
  rintro e w1 ⟨rfl, hg1⟩
  have G1 : Hid (Gr w w1) := (Gr.refl w).alloc.alloc.trans hg1
  have B1 := Lib.hid ((Bx2.new (w.alloc (.cells #[.int .i64 low, .slice ad l.length cap] 56)) (.int .i64 0) (.slice none 0 0) 56 (w.heap.size + 1) (by simp)).gr hg1)
  have A1 := Lib.hid (((Bx2.new w (.int .i64 low) (.slice ad l.length cap) 56 w.heap.size rfl).gr (Gr.refl _).alloc).gr hg1)
  obtain ⟨d0, d1, _, _, _⟩ := A1.out
  clear hg1 HM
  go_wp2_with fail
  refine (HC.out _ G1.out).mono ?_
  rintro e w2 ⟨v, rfl, ho, hg2⟩
  obtain ⟨ad2, cap2, rfl, hc2, hL2, hn2, hb2⟩ := own_intsN ho
  have R2 := Lib.hid hL2
  have G2 := Lib.hid (G1.out.trans hg2)
  have B2 := Lib.hid (B1.out.gr hg2)
  have A2 := Lib.hid (A1.out.gr hg2)
  have C2 := Lib.hid hn2
  have N2 : Hid (∀ a, ad2 = some a → w.heap.size + 2 ≤ a.block ∧ a.block < w2.heap.size) := fun a e => by
    have h1 := hb2 a e
    have h2 := B1.out.lt
    omega
  clear d0 d1 ho hg2 hL2 hn2 hb2 HC G1 B1 A1
  go_wp2_with fail
  refine (HS.out _ _ _ R2.out).mono ?_
  rintro e w3 ⟨rfl, hg3⟩
  have R3 := Lib.hid (R2.out.gr hg3)
  have G3 := Lib.hid (G2.out.trans hg3)
  obtain ⟨c0, c1, f0, f1, lt⟩ := B2.out.gr hg3
  obtain ⟨d0, d1, _, _, dt⟩ := A2.out.gr hg3
  have N3 : Hid (∀ a, ad2 = some a → w.heap.size + 2 ≤ a.block ∧ a.block < w3.heap.size) := fun a e => by
    have h1 := N2.out a e
    have h2 := hg3.size
    omega
  clear hg3 HS R2 G2 B2 A2 N2
  rcases hor with ht | ⟨ht, hq⟩
  · rw [ht]
    go_wp2
    exact bodyPost_ret (v := .tuple #[wdV low ad2 l.length cap2, .bool false, .int .i64 0]) (by simp [results, Tryz.results54, go_sem, *]) rfl
      ⟨ad2, cap2, rfl, ⟨(R3.out.set _ _ (fun a e => by have := N3.out a e; simp; omega)).set _ _ (fun a e => by have := N3.out a e; simp; omega), hc2, HLn.out, C2.out, HL0.out, HL1.out⟩, (fun a e => by have := N3.out a e; simp; omega), gr_set2 G3.out _ (by omega) _ _⟩
  · rw [ht]
    go_wp2
    exact bodyPost_ret (v := .tuple #[wdV low ad2 l.length cap2, .bool false, .int .i64 0]) (by simp [results, Tryz.results54, go_sem, *]) rfl
      ⟨ad2, cap2, rfl, ⟨(R3.out.set _ _ (fun a e => by have := N3.out a e; simp; omega)).set _ _ (fun a e => by have := N3.out a e; simp; omega), hc2, HLn.out, C2.out, HL0.out, HL1.out⟩, (fun a e => by have := N3.out a e; simp; omega), gr_set2 G3.out _ (by omega) _ _⟩
theorem heap_new (w : World) (o : Obj) : (w.drew.alloc o).heap[w.heap.size]? = some o := by
  show (w.heap.push o)[w.heap.size]? = some o
  simp
theorem below_keep {B : Nat} {a b : World} (g : Below B a b) {p : Addr} (hp : p.block < B) {v : Value} (h : a.cell? p = some v) : b.cell? p = some v := (g.cell hp).trans h
theorem Bx2.below {B : Nat} {w w' : World} {g : Nat} {a b : Value} (h : Bx2 w g a b) (k : Below B w w') (hg : g < B) : Bx2 w' g a b :=
  ⟨below_keep k hg h.c0, below_keep k hg h.c1, (k.frozen (p := ⟨g, 0, none⟩) hg).trans h.f0, (k.frozen (p := ⟨g, 1, none⟩) hg).trans h.f1, Nat.lt_of_lt_of_le h.lt k.size⟩
theorem Gr.belowT {a b c : World} (h : Gr a b) {B : Nat} (k : Below B b c) (hB : a.heap.size ≤ B) : Gr a c := ⟨h.below.trans (k.mono hB)⟩
set_option maxHeartbeats 8000000 in
set_option maxRecDepth 100000 in
theorem take_new (W : Wd) (q : Int) (ad : Option Addr) (cap : Nat) (w : World) (h : WdAt w ad cap W) (hm : Wn.may W = true) (h1 : 1 ≤ q) (h2 : q ≤ 1000000000) (hf : ¬ (W.low + 16 < q)) (hh : Wn.has W q = false) :
    Calls Tryz.prog 54 #[wdV W.low ad W.seen.length cap, .int .i64 q] w fun e w' => TkR w w' e (Wn.more W q, true, 0) := by
  have HM : Hid (∀ w', Gr w w' → Calls Tryz.prog 78 #[wdV W.low ad W.seen.length cap] w' fun e w2 => e = .returned (.int .i64 (mayE W)) ∧ Gr w' w2) := fun w' g => may_any W ad cap w' (h.gr g)
  obtain ⟨hlo, hup, hsn⟩ := (Wn.may_iff W).1 hm
  have hle := Wn.may_len hm
  have hnot : q ∉ W.seen := fun hx => by rw [(Wn.has_iff W q).2 (Or.inl hx)] at hh; cases hh
  have hql : ¬ (q ≤ W.low) := fun hx => by rw [(Wn.has_iff W q).2 (Or.inr ⟨h1, hx⟩)] at hh; cases hh
  have HC : Hid (∀ w', Gr w w' → Calls Tryz.prog 79 #[.slice ad W.seen.length cap] w' fun e w2 => ∃ v, e = .returned v ∧ w2.ownsRow w'.heap.size 3 1 v W.seen.length (intV W.seen) ∧ Gr w' w2) := fun w' g => copy_any W.seen ad cap w' (h.row.gr g) (by omega) h.non
  have HS : Hid (∀ w' ad' cap', IntsAt w' ad' W.seen → Calls Tryz.prog 80 #[.slice ad' W.seen.length cap', .int .i64 q] w' fun e w2 => e = .returned (.tuple #[.int .i64 (Wn.pos q W.seen : Nat), .bool false]) ∧ Gr w' w2) := fun w' ad' cap' hL => by
    have := search_any W.seen ad' cap' q w' hL (by omega) hup
    rw [decide_eq_false hnot] at this
    exact this
  have HI : Hid (∀ (base : Nat) (v : Value) (vb : Nat) (w' : World), w'.ownsRow base 3 1 v W.seen.length (intV W.seen) → w'.heap[vb]? = some (.cells #[.int .i64 q] 3 (0, 0)) → (∀ g, v.ownBlock = some g → vb ≠ g) → base ≤ w'.heap.size →
      Calls Tryz.prog 82 #[v, .int .i64 (Wn.pos q W.seen : Nat), .slice (some ⟨vb, 0, none⟩) 1 1] w' fun e w2 => InR base w' w2 e (Wn.ins q W.seen)) := fun base v vb w' ho hv hne hb => by
    have := ins_any base W.seen v (Wn.pos q W.seen) q vb 3 w' ho (by omega) (Wn.pos_le _ _) hv hne hb
    unfold put at this
    rw [Wn.pos_ins q W.seen hup hnot] at this
    exact this
  have hins : (Wn.ins q W.seen).length = W.seen.length + 1 := Wn.ins_len q _ hnot
  have HG : Hid (∀ (w' : World) (g cap' : Nat), IntsAt w' (some ⟨g, 0, none⟩) (Wn.ins q W.seen) → (Wn.ins q W.seen).length ≤ cap' → Calls Tryz.prog 81 #[.int .i64 W.low, .slice (some ⟨g, 0, none⟩) (Wn.ins q W.seen).length cap'] w' fun e w2 => gonR w' w2 e (some ⟨g, 0, none⟩) (Wn.more W q)) := fun w' g cap' hL hc => by
    have := goon_any W.low (Wn.ins q W.seen) (some ⟨g, 0, none⟩) cap' w' hL (by omega) hc hlo.1 (by omega) (fun n hn => by
      rcases (Wn.mem_ins q n W.seen).1 hn with rfl | hn
      · omega
      · have := hsn n hn; omega)
    rw [Wn.gon_more hm h1 (by omega) hh] at this
    exact this
  have HMr : Hid ((Wn.more W q).seen.length ≤ 9223372036854775807 ∧ -9223372036854775808 ≤ (Wn.more W q).low ∧ (Wn.more W q).low ≤ 9223372036854775807) := by
    have ht := Wn.more_took hm h1 (show q ≤ W.low + 16 by omega)
    have hl0 := ht.low0
    have hl1 : (Wn.more W q).low ≤ W.low + 17 := (Wn.up_spec (fun n => Wn.has W n || decide (n = q)) 17 W.low).2.1
    have hl2 : (Wn.more W q).seen.length ≤ 16 := by
      have := Wn.up_len (Wn.more W q).seen ((Wn.more W q).low + 1) (W.low + 16) ht.up (fun n hn => ⟨ht.ab n hn, by
        rcases (ht.has n).1 ((Wn.has_iff _ _).2 (Or.inl hn)) with hx | hx
        · exact (Wn.has_le hm hx).2
        · omega⟩)
      have := Wn.took_low ht
      omega
    exact ⟨by omega, by omega, by omega⟩
  have e0 : mayE W = 0 := by unfold mayE; rw [if_pos hm]
  rw [e0] at HM
  clear h hm e0 hh hup hsn hnot hins
  generalize Wn.more W q = M at *
  generalize hP : Wn.pos q W.seen = ps at *
  generalize Wn.ins q W.seen = il at *
  clear hP
  obtain ⟨low, l⟩ := W
  simp only at *
  go_enter Tryz.func54, Tryz.ntmps54
  go_wp2_with fail
  refine (HM.out _ (by repeat(first|exact Gr.r _|refine Gr.a ?_|refine Gr.d ?_|refine Gr.t ?_ (by assumption)))).mono ?_
  rintro e w1 ⟨rfl, hg1⟩
  have G1 : Hid (Gr w w1) := (Gr.refl w).alloc.alloc.trans hg1
  have B1 := Lib.hid ((Bx2.new (w.alloc (.cells #[.int .i64 low, .slice ad l.length cap] 56)) (.int .i64 0) (.slice none 0 0) 56 (w.heap.size + 1) (by simp)).gr hg1)
  have A1 := Lib.hid (((Bx2.new w (.int .i64 low) (.slice ad l.length cap) 56 w.heap.size rfl).gr (Gr.refl _).alloc).gr hg1)
  obtain ⟨d0, d1, _, _, _⟩ := A1.out
  have hs1 := B1.out.lt
  clear hg1 HM
  go_wp2_with fail
  refine (HC.out _ G1.out).mono ?_
  rintro e w2 ⟨v, rfl, ho, hg2⟩
  obtain ⟨ad2, cap2, rfl, hc2, hL2, hn2, hb2⟩ := own_intsN ho
  have O2 := Lib.hid ho
  have R2 := Lib.hid hL2
  have G2 := Lib.hid (G1.out.trans hg2)
  have B2 := Lib.hid (B1.out.gr hg2)
  have A2 := Lib.hid (A1.out.gr hg2)
  have S2 := hg2.size
  have N2 : Hid (∀ a, ad2 = some a → w1.heap.size ≤ a.block ∧ a.block < w2.heap.size) := hb2
  clear d0 d1 ho hg2 hL2 hn2 hb2 HC G1 B1 A1
  go_wp2_with fail
  refine (HS.out _ _ _ R2.out).mono ?_
  rintro e w3 ⟨rfl, hg3⟩
  have O3 := Lib.hid (row_gr O2.out hg3)
  have G3 := Lib.hid (G2.out.trans hg3)
  have B3 := Lib.hid (B2.out.gr hg3)
  have A3 := Lib.hid (A2.out.gr hg3)
  obtain ⟨d0, d1, _, _, dt⟩ := A3.out
  have S3 := hg3.size
  clear hg3 HS R2 G2 B2 A2 O2
  go_upto_region 9 with fail
  refine beginL 8 (fun w' => w'.cell? ⟨w.heap.size, 0, none⟩ = some (.int .i64 low)) (by kernel_rfl) (by first | with_reducible exact hHeld | with_reducible exact d0 | with_reducible exact k5 | with_reducible exact k4 | exact Gr.keep (by repeat(first|exact Gr.r _|refine Gr.a ?_|refine Gr.d ?_|refine Gr.t ?_ (by assumption))) d0) (fun hHeld => ?_)
  refine takeW 0 48 (v := ?_) rfl rfl (by decide) (by kernel_rfl) (by kernel_rfl) (by kernel_rfl) (fun _ _ _ h => h) (by rfl) ?_ (fun _ => hHeld) ?_
  rotate_left
  · (intro w; (try intro hSw); (try dsimp only at hSw); go_simp; try with_reducible rfl)
  simp only [Act.put, List.setIfInBounds_toArray, List.set_cons_zero, List.set_cons_succ]
  refine takeW 2 50 (v := ?_) rfl rfl (by decide) (by kernel_rfl) (by kernel_rfl) (by kernel_rfl) (fun _ _ _ h => h) (by rfl) ?_ (fun _ => hHeld) ?_
  rotate_left
  · (intro w; (try intro hSw); (try dsimp only at hSw); go_simp; try with_reducible rfl)
  simp only [Act.put, List.setIfInBounds_toArray, List.set_cons_zero, List.set_cons_succ]
  refine takeW 3 51 (v := ?_) rfl rfl (by decide) (by kernel_rfl) (by kernel_rfl) (by kernel_rfl) (fun _ _ _ h => h) (by rfl) ?_ (fun _ => hHeld) ?_
  rotate_left
  · (intro w; (try intro hSw); (try dsimp only at hSw); go_simp; try with_reducible rfl)
  simp only [Act.put, List.setIfInBounds_toArray, List.set_cons_zero, List.set_cons_succ]
  refine takeW 4 52 (v := ?_) rfl rfl (by decide) (by kernel_rfl) (by kernel_rfl) (by kernel_rfl) (fun _ _ _ h => h) (by rfl) ?_ (fun _ => hHeld) ?_
  rotate_left
  · (intro w; (try intro hSw); (try dsimp only at hSw); go_simp; try with_reducible rfl)
  simp only [Act.put, List.setIfInBounds_toArray, List.set_cons_zero, List.set_cons_succ]
  refine takeS 1 49 (v := ?_) rfl rfl (by decide) (by kernel_rfl) (by kernel_rfl) (by kernel_rfl) (by kernel_rfl) (by kernel_rfl) (fun _ _ _ h => h) (by rfl) ?_ hHeld ?_
  rotate_left
  · (intro w; (try intro hSw); (try dsimp only at hSw); go_simp; try with_reducible rfl)
  simp only [Act.put, List.setIfInBounds_toArray, List.set_cons_zero, List.set_cons_succ]
  refine stepC 5 (by kernel_rfl) rfl (fun K hK => ?_)
  go_simp
  refine hK.out _ _ (by first | with_reducible exact hHeld | with_reducible exact d0 | with_reducible exact k5 | with_reducible exact k4 | exact Gr.keep (by repeat(first|exact Gr.r _|refine Gr.a ?_|refine Gr.d ?_|refine Gr.t ?_ (by assumption))) d0) (fun hHeldN => ?_)
  clear hHeld hK K
  have hHeld := hHeldN
  clear hHeldN
  refine stepC 6 (by kernel_rfl) rfl (fun K hK => ?_)
  go_simp
  (refine (HI.out w1.heap.size _ w3.heap.size _ (row_gr O3.out (Gr.refl _).drew.alloc) (heap_new _ _) (fun g e => by cases ad2 with | none => cases e | some a => cases e; have := (N2.out a rfl).2; omega) (by simp; omega)).mono ?_; rintro e w4 ⟨g, cap4, rfl, hL4, hc4, hbg, hgl, hb4⟩; have k4 : w4.cell? ⟨w.heap.size, 0, none⟩ = some (.int .i64 low) := below_keep hb4 (p := ⟨w.heap.size, 0, none⟩) (by show w.heap.size < w1.heap.size; omega) (Gr.keep (Gr.refl _).drew.alloc d0))
  (try go_wp2_with fail)
  refine hK.out _ _ (by first | with_reducible exact hHeld | with_reducible exact d0 | with_reducible exact k5 | with_reducible exact k4 | exact Gr.keep (by repeat(first|exact Gr.r _|refine Gr.a ?_|refine Gr.d ?_|refine Gr.t ?_ (by assumption))) d0) (fun hHeldN => ?_)
  clear hHeld hK K
  have hHeld := hHeldN
  clear hHeldN
  have B4 := Lib.hid (Bx2.below (B3.out.gr (Gr.refl _).drew.alloc) hb4 (by omega))
  have G4 := Lib.hid (G3.out.drew.alloc.belowT hb4 (by omega))
  clear hb4 B3 G3 A3
  refine stepC 7 (by kernel_rfl) rfl (fun K hK => ?_)
  go_simp
  (refine (HG.out _ g cap4 hL4 hc4).mono ?_; rintro e w5 ⟨ad5, cap5, rfl, hL5, hc5, hn5, hb5, hg5⟩; have k5 : w5.cell? ⟨w.heap.size, 0, none⟩ = some (.int .i64 low) := hg5.keep k4)
  (try go_wp2_with fail)
  refine hK.out _ _ (by first | with_reducible exact hHeld | with_reducible exact d0 | with_reducible exact k5 | with_reducible exact k4 | exact Gr.keep (by repeat(first|exact Gr.r _|refine Gr.a ?_|refine Gr.d ?_|refine Gr.t ?_ (by assumption))) d0) (fun hHeldN => ?_)
  clear hHeld hK K
  have hHeld := hHeldN
  clear hHeldN
  have G5 := Lib.hid (G4.out.trans hg5)
  have N5 : Hid (∀ a, ad5 = some a → w.heap.size + 2 ≤ a.block ∧ a.block < w5.heap.size) := fun a e => by
    obtain ⟨a', e', hb'⟩ := hb5 a e
    cases e'
    have := hg5.size
    simp only at hb'
    omega
  have R5 := Lib.hid hL5
  have C5 := Lib.hid hn5
  obtain ⟨c0, c1, f0, f1, lt⟩ := B4.out.gr hg5
  clear hL4 hL5 hn5 hb5 hg5 B4 G4
  refine stepS (by kernel_rfl) rfl (by kernel_rfl) (fun K hK => ?_)
  go_simp
  refine hK.out _ _ ?_
  clear hHeld hK K
  refine takeW 9 5 (v := ?_) rfl rfl (by decide) (by kernel_rfl) (by kernel_rfl) (by kernel_rfl) (fun _ _ _ h => h) (by rfl) ?_ (fun h => listed_done (by kernel_rfl) h) ?_
  rotate_left
  · (intro w; (try intro hSw); (try dsimp only at hSw); go_simp; try with_reducible rfl)
  simp only [Act.put, List.setIfInBounds_toArray, List.set_cons_zero, List.set_cons_succ]
  refine takeW 10 6 (v := ?_) rfl rfl (by decide) (by kernel_rfl) (by kernel_rfl) (by kernel_rfl) (fun _ _ _ h => h) (by rfl) ?_ (fun h => listed_done (by kernel_rfl) h) ?_
  rotate_left
  · (intro w; (try intro hSw); (try dsimp only at hSw); go_simp; try with_reducible rfl)
  simp only [Act.put, List.setIfInBounds_toArray, List.set_cons_zero, List.set_cons_succ]
  refine doneL (by kernel_rfl) ?_ _
  go_wp2
  exact bodyPost_ret (v := .tuple #[wdV M.low ad5 M.seen.length cap5, .bool true, .int .i64 0]) (by simp [results, Tryz.results54, go_sem, *]) rfl
    ⟨ad5, cap5, rfl, ⟨(R5.out.set _ _ (fun a e => by have := N5.out a e; simp; omega)).set _ _ (fun a e => by have := N5.out a e; simp; omega), hc5, HMr.out.1, C5.out, HMr.out.2.1, HMr.out.2.2⟩, (fun a e => by have := N5.out a e; simp; omega), gr_set2 G5.out _ (by omega) _ _⟩
/- Take, whatever it is given -/
theorem take_any (W : Wd) (q : Int) (ad : Option Addr) (cap : Nat) (w : World) (h : WdAt w ad cap W) :
    Calls Tryz.prog 54 #[wdV W.low ad W.seen.length cap, .int .i64 q] w fun e w' => TkR w w' e (Wn.take W q) := by
  unfold Wn.take
  by_cases c : Wn.may W = true ∧ 1 ≤ q ∧ q ≤ 1000000000
  · rw [if_pos c]
    by_cases f : W.low + 16 < q
    · rw [if_pos f]; exact take_far W q ad cap w h c.1 c.2.1 c.2.2 f
    · rw [if_neg f]
      by_cases t : Wn.has W q = true
      · rw [if_pos t]; exact take_had W q ad cap w h c.1 c.2.1 c.2.2 f t
      · rw [if_neg t]; exact take_new W q ad cap w h c.1 c.2.1 c.2.2 f (by simpa using t)
  · rw [if_neg c]; exact take_bad W q ad cap w h c
end Go.Proofs.YthfbpilfdfploaaGreat
namespace Go.Proofs.YthfbpilfdfploaaGreat
open Go.RowKit
open Wn (Wd)

theorem cell_one (w : World) (v : Value) (t : TypeId) : ∀ j u, [v][j]? = some u → (w.alloc (.cells #[v] t)).cell? ((⟨w.heap.size, 0, none⟩ : Addr).add j) = some u := by
  intro j u hu
  cases j with
  | zero => simp at hu; subst hu; simp [Addr.add]
  | succ j => simp at hu
theorem own_slice {w : World} {base : Nat} {e : TypeId} {size n : Nat} {v : Value} {xs : List Value} (h : w.ownsRow base e size v n xs) : ∃ ad cap, v = .slice ad n cap := by
  obtain ⟨h1, ⟨rfl, h2⟩ | ⟨g, cap, cur, rfl, _⟩⟩ := h
  · exact ⟨none, 0, by rw [h2]⟩
  · exact ⟨_, _, rfl⟩
end Go.Proofs.YthfbpilfdfploaaGreat
namespace Go.Proofs.YthfbpilfdfploaaGreat
open Go.ChangeShapes Go.WideShapes Go.ChangeAt Go.RowKit

theorem own2 : ownKnob Tryz.prog.godebug = none := by kernel_rfl
theorem laidOut2 : laidOutB Tryz.prog = true := by kernel_rfl
theorem rng_i64 {n : Int} (h : (Lit.int .i64 n).wf = true) : -9223372036854775808 ≤ n ∧ n ≤ 9223372036854775807 := by
  simp only [Lit.wf, Bool.and_eq_true, decide_eq_true_eq] at h
  exact h
theorem row_of {α : Type} {f : α → List Value} {c : Nat} (hc : ∀ x, (f x).length = c) (h0 : 0 < c) {w : World} {b off : Nat} {L : List α}
    (each : ∀ q (h : q < L.length) r u, (f L[q])[r]? = some u → w.cell? ⟨b, off + (q * c + r), none⟩ = some u) : RowAt f w (some ⟨b, off, none⟩) L := by
  intro j u hu
  have hj : j < (L.flatMap f).length := by
    rcases Nat.lt_or_ge j (L.flatMap f).length with h | h
    · exact h
    · rw [List.getElem?_eq_none h] at hu; cases hu
  rw [flat_len hc] at hj
  have hr : j % c < c := Nat.mod_lt _ h0
  have hq : j / c < L.length := Nat.div_lt_of_lt_mul (by rw [Nat.mul_comm]; exact hj)
  have e : j = j / c * c + j % c := by rw [Nat.mul_comm]; exact (Nat.div_add_mod j c).symm
  rw [e, flat_get hc L (j / c) hq (j % c) hr] at hu
  have h := each (j / c) hq (j % c) u hu
  rw [← e] at h
  exact ⟨b, off, rfl, World.block_lt_of_cell? w _ h, h⟩

theorem open_rows {α : Type} [Inhabited α] {f : α → List Value} {c : Nat} (hc : ∀ x, (f x).length = c) (h0 : 0 < c) {In : α → Prop} {t e : TypeId} (ht : Tryz.prog.underlying t = some (.slice e)) (ce : Tryz.prog.cellsOf e = c)
    {H : Type} {enc : TypeId × Value → H} {W : World} {base : Nat} {sp : Nat → Bool} {held : Bool} {fuel : Nat} {a0 : Option Addr} {len0 cap0 : Nat} {x : DataW H × List MemPlace}
    (elem : ∀ (n : Nat) (cs : List Value) (y : DataW H × List MemPlace), cs.length = c → DataW.trod enc Tryz.prog W base sp held n e cs = some y → ∃ z : α, cs = f z ∧ In z)
    (hf : DataW.trod enc Tryz.prog W base sp held fuel t [.slice a0 len0 cap0] = some x) :
    ∃ L : List α, len0 = L.length ∧ RowAt f W a0 L ∧ L.length ≤ 9223372036854775807 ∧ ∀ y ∈ L, In y := by
  rcases Deep.open_slice ht hf with ⟨hcs, _⟩ | ⟨a, len, cap, m, n, D, Pl, hcs, _, hl, hm, hmm, _, hx⟩
  · simp at hcs
    obtain ⟨rfl, rfl, rfl⟩ := hcs
    exact ⟨[], rfl, RowAt.nil, by simp, by simp⟩
  · simp at hcs
    obtain ⟨rfl, rfl, rfl⟩ := hcs
    have hlm : len0 ≤ m := by rw [hmm]; split <;> omega
    have each : ∀ i, i < len0 → ∃ z : α, (∀ r u, (f z)[r]? = some u → W.cell? (a.add (i * c + r)) = some u) ∧ In z := by
      intro i hi
      obtain ⟨cs, h1, h2⟩ := hx i (by omega)
      rw [ce] at h1
      obtain ⟨_, hlen, hcell⟩ := World.cells?_some h1
      obtain ⟨z, rfl, hz⟩ := elem n cs _ hlen h2
      refine ⟨z, fun r u hu => ?_, hz⟩
      have hr : r < c := by
        rcases Nat.lt_or_ge r (f z).length with h | h
        · rw [hc] at h; exact h
        · rw [List.getElem?_eq_none h] at hu; cases hu
      have c0 := hcell r hr
      rw [Deep.add_add] at c0
      rw [c0, ← hu]
    obtain ⟨g, hg⟩ := Deep.choose_lt each
    unfold maxLen at hm
    refine ⟨(List.range len0).map g, by simp, ?_, by simp; omega, ?_⟩
    · cases len0 with
      | zero => simp; exact RowAt.nil
      | succ l =>
        obtain ⟨b, off, spot⟩ := a
        have h00 : 0 < (f (g 0)).length := by rw [hc]; exact h0
        have hspot : spot = none := by
          have := World.cell?_spot ((hg 0 (by omega)).1 0 _ (List.getElem?_eq_getElem h00))
          simpa [Addr.add] using this
        subst hspot
        refine row_of hc h0 fun q hq r u hu => ?_
        have hq' : q < l + 1 := by simpa using hq
        have := (hg q hq').1 r u (by simpa using hu)
        rwa [Addr.add_lit] at this
    · intro y hy
      obtain ⟨j, hj, rfl⟩ := List.mem_map.1 hy
      exact (hg j (by simpa using hj)).2

end Go.Proofs.YthfbpilfdfploaaGreat
