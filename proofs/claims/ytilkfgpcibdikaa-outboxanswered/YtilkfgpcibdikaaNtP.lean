
/- note: what Check, Ends and Frame answer. -/
import Derived.Test.YtilkfgpcibdikaaNtM
import Derived.Test.YtilkfgpcibdikaaNtA
import Derived.Test.YtilkfgpcibdikaaOrgP
import Derived.Test.YtilkfgpcibdikaaActNd
namespace Go.Proofs.Ytilkfgpcibdikaa
open Go.RowKit

theorem eqE (d : ByteArray) : d.toList.isEmpty = decide (d = ⟨#[]⟩) := by
  rw [ByteArray.toList_eq]
  by_cases h : d = ⟨#[]⟩
  · subst h; rfl
  · have : ¬ d.data.toList = [] := fun e => h (by cases d; simp at e; rw [e])
    rw [decide_eq_false h]; simpa using this

set_option maxHeartbeats 400000 in
theorem within_any (n l h : Int) (w : World) : Calls Try.prog 52 #[.int .i64 n, .int .i64 l, .int .i64 h] w fun e w' => e = .returned (.bool (Nt.inB n l h)) ∧ w' = w := by
  unfold Nt.inB
  by_cases a : l ≤ n
  · rw [decide_eq_true a, Bool.true_and]
    go_enter Try.func52, Try.ntmps52
    go_wp2
    go_ret
    exact ⟨rfl, rfl⟩
  · rw [decide_eq_false a, Bool.false_and]
    go_enter Try.func52, Try.ntmps52
    go_wp2
    go_ret
    exact ⟨rfl, rfl⟩
set_option maxHeartbeats 1000000 in
theorem isChild_any (r n : Int) (L : List (Int × Int)) (ad : Option Addr) (cap : Nat) (w : World) (hL : HopsAt w ad L) (hn : L.length ≤ 9223372036854775807) :
    Calls Try.prog 53 #[.agg #[.int .i64 r, .int .i64 n, .slice ad L.length cap]] w fun e w' => e = .returned (.bool (Idn.mayB r n L && decide (0 < L.length))) ∧ Gr w w' := by
  have HC : Hid (∀ w', Gr w w' → Calls Try.prog 60 #[.agg #[.int .i64 r, .int .i64 n, .slice ad L.length cap]] w' fun e w2 => e = .returned (.int .i64 (errB (Idn.mayB r n L))) ∧ Gr w' w2) := fun w' g => check_any r n L ad cap w' (hL.gr g) hn
  generalize Idn.mayB r n L = q at *
  clear hL
  cases q with
  | false =>
    rw [show errB false = 30 from rfl] at HC
    rw [Bool.false_and]
    go_enter Try.func53, Try.ntmps53
    go_wp2_with fail
    refine (HC.out _ (by repeat (first | exact Gr.refl _ | refine Gr.alloc ?_ | refine Gr.drew ?_ | refine Gr.trans ?_ (by assumption)))).mono ?_
    rintro e1 w1 ⟨rfl, hg1⟩
    go_wp2
    go_ret
    exact ⟨rfl, (by repeat (first | exact Gr.refl _ | refine Gr.alloc ?_ | refine Gr.drew ?_ | refine Gr.trans ?_ (by assumption)))⟩
  | true =>
    rw [show errB true = 0 from rfl] at HC
    rw [Bool.true_and]
    go_enter Try.func53, Try.ntmps53
    go_wp2_with fail
    refine (HC.out _ (by repeat (first | exact Gr.refl _ | refine Gr.alloc ?_ | refine Gr.drew ?_ | refine Gr.trans ?_ (by assumption)))).mono ?_
    rintro e1 w1 ⟨rfl, hg1⟩
    have B1 := (Cs.new w [.int .i64 r, .int .i64 n, .slice ad L.length cap] 35 _ rfl).gr hg1
    have c2 := B1.at_ 2 _ rfl
    go_wp2
    go_ret
    exact ⟨rfl, (by repeat (first | exact Gr.refl _ | refine Gr.alloc ?_ | refine Gr.drew ?_ | refine Gr.trans ?_ (by assumption)))⟩
set_option maxHeartbeats 1000000 in
theorem defFits_any (k r n : Int) (L : List (Int × Int)) (d : ByteArray) (y : Int) (ad : Option Addr) (cap : Nat) (w : World) (hd : d.size ≤ 9223372036854775807) :
    Calls Try.prog 54 #[.agg #[.int .i64 k, .int .i64 r, .int .i64 n, .slice ad L.length cap, .string d, .int .i64 y]] w fun e w' => e = .returned (.bool (Nt.dfB ⟨k, r, n, L, d, y⟩)) ∧ Gr w w' := by
  have HN : Hid (∀ w', Calls Try.prog 61 #[.string d] w' fun e w2 => e = .returned (.bool (Act.nameB d)) ∧ w2 = w') := fun w' => name_any d w' hd
  unfold Nt.dfB
  simp only
  by_cases a : k = 1
  · subst a
    rw [if_pos rfl]
    go_enter Try.func54, Try.ntmps54
    go_wp2_with fail
    refine (HN.out _).mono ?_
    rintro e1 w1 ⟨rfl, rfl⟩
    go_wp2
    go_ret
    exact ⟨rfl, (by repeat (first | exact Gr.refl _ | refine Gr.alloc ?_ | refine Gr.drew ?_ | refine Gr.trans ?_ (by assumption)))⟩
  · rw [if_neg a, ← eqE]
    have a' : (k == 1) = false := by simpa using a
    go_enter Try.func54, Try.ntmps54
    go_wp2
    go_ret
    exact ⟨rfl, (by repeat (first | exact Gr.refl _ | refine Gr.alloc ?_ | refine Gr.drew ?_ | refine Gr.trans ?_ (by assumption)))⟩
set_option maxHeartbeats 1000000 in
theorem whyFits_any (k r n : Int) (L : List (Int × Int)) (d : ByteArray) (y : Int) (ad : Option Addr) (cap : Nat) (w : World) :
    Calls Try.prog 55 #[.agg #[.int .i64 k, .int .i64 r, .int .i64 n, .slice ad L.length cap, .string d, .int .i64 y]] w fun e w' => e = .returned (.bool (Nt.wyB ⟨k, r, n, L, d, y⟩)) ∧ Gr w w' := by
  have HW : Hid (∀ w', Calls Try.prog 52 #[.int .i64 y, .int .i64 1, .int .i64 9] w' fun e w2 => e = .returned (.bool (Nt.inB y 1 9)) ∧ w2 = w') := fun w' => within_any y 1 9 w'
  unfold Nt.wyB
  simp only
  by_cases a : k = 6
  · subst a
    rw [if_pos rfl]
    go_enter Try.func55, Try.ntmps55
    go_wp2_with fail
    refine (HW.out _).mono ?_
    rintro e1 w1 ⟨rfl, rfl⟩
    go_wp2
    go_ret
    exact ⟨rfl, (by repeat (first | exact Gr.refl _ | refine Gr.alloc ?_ | refine Gr.drew ?_ | refine Gr.trans ?_ (by assumption)))⟩
  · rw [if_neg a]
    have a' : (k == 6) = false := by simpa using a
    have b' : (y == 0) = decide (y = 0) := by rfl
    go_enter Try.func55, Try.ntmps55
    go_wp2
    go_ret
    exact ⟨rfl, (by repeat (first | exact Gr.refl _ | refine Gr.alloc ?_ | refine Gr.drew ?_ | refine Gr.trans ?_ (by assumption)))⟩
set_option maxHeartbeats 2000000 in
theorem nCheck_any (k r n : Int) (L : List (Int × Int)) (d : ByteArray) (y : Int) (ad : Option Addr) (cap : Nat) (w : World) (hL : HopsAt w ad L) (hn : L.length ≤ 9223372036854775807) (hd : d.size ≤ 9223372036854775807) :
    Calls Try.prog 41 #[.agg #[.int .i64 k, .int .i64 r, .int .i64 n, .slice ad L.length cap, .string d, .int .i64 y]] w fun e w' => e = .returned (.int .i64 (Nt.ckE ⟨k, r, n, L, d, y⟩)) ∧ Gr w w' := by
  have H0 : Hid (∀ w', Gr w w' → Calls Try.prog 52 #[.int .i64 k, .int .i64 1, .int .i64 7] w' fun e w2 => e = .returned (.bool (Nt.inB k 1 7)) ∧ Gr w' w2) := fun w' _ => (within_any k 1 7 w').mono (by rintro e w2 ⟨rfl, rfl⟩; exact ⟨rfl, Gr.refl _⟩)
  have H1 : Hid (∀ w', Gr w w' → Calls Try.prog 53 #[.agg #[.int .i64 r, .int .i64 n, .slice ad L.length cap]] w' fun e w2 => e = .returned (.bool (Nt.chB ⟨k, r, n, L, d, y⟩)) ∧ Gr w' w2) := fun w' g => isChild_any r n L ad cap w' (hL.gr g) hn
  have H2 : Hid (∀ w', Gr w w' → Calls Try.prog 54 #[.agg #[.int .i64 k, .int .i64 r, .int .i64 n, .slice ad L.length cap, .string d, .int .i64 y]] w' fun e w2 => e = .returned (.bool (Nt.dfB ⟨k, r, n, L, d, y⟩)) ∧ Gr w' w2) := fun w' _ => defFits_any k r n L d y ad cap w' hd
  have H3 : Hid (∀ w', Gr w w' → Calls Try.prog 55 #[.agg #[.int .i64 k, .int .i64 r, .int .i64 n, .slice ad L.length cap, .string d, .int .i64 y]] w' fun e w2 => e = .returned (.bool (Nt.wyB ⟨k, r, n, L, d, y⟩)) ∧ Gr w' w2) := fun w' _ => whyFits_any k r n L d y ad cap w'
  have HE : Hid (Nt.ckE ⟨k, r, n, L, d, y⟩ = if (Nt.inB k 1 7 && Nt.chB ⟨k, r, n, L, d, y⟩ && Nt.dfB ⟨k, r, n, L, d, y⟩ && Nt.wyB ⟨k, r, n, L, d, y⟩) = true then 0 else 130) := rfl
  generalize Nt.ckE ⟨k, r, n, L, d, y⟩ = R at *
  generalize Nt.inB k 1 7 = b0 at *
  generalize Nt.chB ⟨k, r, n, L, d, y⟩ = b1 at *
  generalize Nt.dfB ⟨k, r, n, L, d, y⟩ = b2 at *
  generalize Nt.wyB ⟨k, r, n, L, d, y⟩ = b3 at *
  clear hL hn hd
  cases b0 with
  | false =>
    go_enter Try.func41, Try.ntmps41
    go_wp2_with fail
    refine (H0.out _ ?_).mono ?_
    · exact (by repeat (first | exact Gr.refl _ | refine Gr.alloc ?_ | refine Gr.drew ?_ | refine Gr.trans ?_ (by assumption)))
    rintro e0 w1 ⟨rfl, hg0⟩
    have B1 := (Cs.new w [.int .i64 k, .int .i64 r, .int .i64 n, .slice ad L.length cap, .string d, .int .i64 y] 37 _ rfl).gr hg0
    have c0 := B1.at_ 0 _ rfl
    have c1 := B1.at_ 1 _ rfl
    have c2 := B1.at_ 2 _ rfl
    have c3 := B1.at_ 3 _ rfl
    have c4 := B1.at_ 4 _ rfl
    have c5 := B1.at_ 5 _ rfl
    have clt := B1.lt
    go_wp2
    go_ret
    exact ⟨by rw [HE.out]; rfl, (by repeat (first | exact Gr.refl _ | refine Gr.alloc ?_ | refine Gr.drew ?_ | refine Gr.trans ?_ (by assumption)))⟩
  | true =>
    cases b1 with
    | false =>
      go_enter Try.func41, Try.ntmps41
      go_wp2_with fail
      refine (H0.out _ ?_).mono ?_
      · exact (by repeat (first | exact Gr.refl _ | refine Gr.alloc ?_ | refine Gr.drew ?_ | refine Gr.trans ?_ (by assumption)))
      rintro e0 w1 ⟨rfl, hg0⟩
      have B1 := (Cs.new w [.int .i64 k, .int .i64 r, .int .i64 n, .slice ad L.length cap, .string d, .int .i64 y] 37 _ rfl).gr hg0
      have c0 := B1.at_ 0 _ rfl
      have c1 := B1.at_ 1 _ rfl
      have c2 := B1.at_ 2 _ rfl
      have c3 := B1.at_ 3 _ rfl
      have c4 := B1.at_ 4 _ rfl
      have c5 := B1.at_ 5 _ rfl
      have clt := B1.lt
      go_wp2_with fail
      refine (H1.out _ ?_).mono ?_
      · exact (by repeat (first | exact Gr.refl _ | refine Gr.alloc ?_ | refine Gr.drew ?_ | refine Gr.trans ?_ (by assumption)))
      rintro e1 w2 ⟨rfl, hg1⟩
      have B2 := B1.gr hg1
      have c0 := B2.at_ 0 _ rfl
      have c1 := B2.at_ 1 _ rfl
      have c2 := B2.at_ 2 _ rfl
      have c3 := B2.at_ 3 _ rfl
      have c4 := B2.at_ 4 _ rfl
      have c5 := B2.at_ 5 _ rfl
      have clt := B2.lt
      go_wp2
      go_ret
      exact ⟨by rw [HE.out]; rfl, (by repeat (first | exact Gr.refl _ | refine Gr.alloc ?_ | refine Gr.drew ?_ | refine Gr.trans ?_ (by assumption)))⟩
    | true =>
      cases b2 with
      | false =>
        go_enter Try.func41, Try.ntmps41
        go_wp2_with fail
        refine (H0.out _ ?_).mono ?_
        · exact (by repeat (first | exact Gr.refl _ | refine Gr.alloc ?_ | refine Gr.drew ?_ | refine Gr.trans ?_ (by assumption)))
        rintro e0 w1 ⟨rfl, hg0⟩
        have B1 := (Cs.new w [.int .i64 k, .int .i64 r, .int .i64 n, .slice ad L.length cap, .string d, .int .i64 y] 37 _ rfl).gr hg0
        have c0 := B1.at_ 0 _ rfl
        have c1 := B1.at_ 1 _ rfl
        have c2 := B1.at_ 2 _ rfl
        have c3 := B1.at_ 3 _ rfl
        have c4 := B1.at_ 4 _ rfl
        have c5 := B1.at_ 5 _ rfl
        have clt := B1.lt
        go_wp2_with fail
        refine (H1.out _ ?_).mono ?_
        · exact (by repeat (first | exact Gr.refl _ | refine Gr.alloc ?_ | refine Gr.drew ?_ | refine Gr.trans ?_ (by assumption)))
        rintro e1 w2 ⟨rfl, hg1⟩
        have B2 := B1.gr hg1
        have c0 := B2.at_ 0 _ rfl
        have c1 := B2.at_ 1 _ rfl
        have c2 := B2.at_ 2 _ rfl
        have c3 := B2.at_ 3 _ rfl
        have c4 := B2.at_ 4 _ rfl
        have c5 := B2.at_ 5 _ rfl
        have clt := B2.lt
        go_wp2_with fail
        refine (H2.out _ ?_).mono ?_
        · exact (by repeat (first | exact Gr.refl _ | refine Gr.alloc ?_ | refine Gr.drew ?_ | refine Gr.trans ?_ (by assumption)))
        rintro e2 w3 ⟨rfl, hg2⟩
        have B3 := B2.gr hg2
        have c0 := B3.at_ 0 _ rfl
        have c1 := B3.at_ 1 _ rfl
        have c2 := B3.at_ 2 _ rfl
        have c3 := B3.at_ 3 _ rfl
        have c4 := B3.at_ 4 _ rfl
        have c5 := B3.at_ 5 _ rfl
        have clt := B3.lt
        go_wp2
        go_ret
        exact ⟨by rw [HE.out]; rfl, (by repeat (first | exact Gr.refl _ | refine Gr.alloc ?_ | refine Gr.drew ?_ | refine Gr.trans ?_ (by assumption)))⟩
      | true =>
        cases b3 with
        | false =>
          go_enter Try.func41, Try.ntmps41
          go_wp2_with fail
          refine (H0.out _ ?_).mono ?_
          · exact (by repeat (first | exact Gr.refl _ | refine Gr.alloc ?_ | refine Gr.drew ?_ | refine Gr.trans ?_ (by assumption)))
          rintro e0 w1 ⟨rfl, hg0⟩
          have B1 := (Cs.new w [.int .i64 k, .int .i64 r, .int .i64 n, .slice ad L.length cap, .string d, .int .i64 y] 37 _ rfl).gr hg0
          have c0 := B1.at_ 0 _ rfl
          have c1 := B1.at_ 1 _ rfl
          have c2 := B1.at_ 2 _ rfl
          have c3 := B1.at_ 3 _ rfl
          have c4 := B1.at_ 4 _ rfl
          have c5 := B1.at_ 5 _ rfl
          have clt := B1.lt
          go_wp2_with fail
          refine (H1.out _ ?_).mono ?_
          · exact (by repeat (first | exact Gr.refl _ | refine Gr.alloc ?_ | refine Gr.drew ?_ | refine Gr.trans ?_ (by assumption)))
          rintro e1 w2 ⟨rfl, hg1⟩
          have B2 := B1.gr hg1
          have c0 := B2.at_ 0 _ rfl
          have c1 := B2.at_ 1 _ rfl
          have c2 := B2.at_ 2 _ rfl
          have c3 := B2.at_ 3 _ rfl
          have c4 := B2.at_ 4 _ rfl
          have c5 := B2.at_ 5 _ rfl
          have clt := B2.lt
          go_wp2_with fail
          refine (H2.out _ ?_).mono ?_
          · exact (by repeat (first | exact Gr.refl _ | refine Gr.alloc ?_ | refine Gr.drew ?_ | refine Gr.trans ?_ (by assumption)))
          rintro e2 w3 ⟨rfl, hg2⟩
          have B3 := B2.gr hg2
          have c0 := B3.at_ 0 _ rfl
          have c1 := B3.at_ 1 _ rfl
          have c2 := B3.at_ 2 _ rfl
          have c3 := B3.at_ 3 _ rfl
          have c4 := B3.at_ 4 _ rfl
          have c5 := B3.at_ 5 _ rfl
          have clt := B3.lt
          go_wp2_with fail
          refine (H3.out _ ?_).mono ?_
          · exact (by repeat (first | exact Gr.refl _ | refine Gr.alloc ?_ | refine Gr.drew ?_ | refine Gr.trans ?_ (by assumption)))
          rintro e3 w4 ⟨rfl, hg3⟩
          have B4 := B3.gr hg3
          have c0 := B4.at_ 0 _ rfl
          have c1 := B4.at_ 1 _ rfl
          have c2 := B4.at_ 2 _ rfl
          have c3 := B4.at_ 3 _ rfl
          have c4 := B4.at_ 4 _ rfl
          have c5 := B4.at_ 5 _ rfl
          have clt := B4.lt
          go_wp2
          go_ret
          exact ⟨by rw [HE.out]; rfl, (by repeat (first | exact Gr.refl _ | refine Gr.alloc ?_ | refine Gr.drew ?_ | refine Gr.trans ?_ (by assumption)))⟩
        | true =>
          go_enter Try.func41, Try.ntmps41
          go_wp2_with fail
          refine (H0.out _ ?_).mono ?_
          · exact (by repeat (first | exact Gr.refl _ | refine Gr.alloc ?_ | refine Gr.drew ?_ | refine Gr.trans ?_ (by assumption)))
          rintro e0 w1 ⟨rfl, hg0⟩
          have B1 := (Cs.new w [.int .i64 k, .int .i64 r, .int .i64 n, .slice ad L.length cap, .string d, .int .i64 y] 37 _ rfl).gr hg0
          have c0 := B1.at_ 0 _ rfl
          have c1 := B1.at_ 1 _ rfl
          have c2 := B1.at_ 2 _ rfl
          have c3 := B1.at_ 3 _ rfl
          have c4 := B1.at_ 4 _ rfl
          have c5 := B1.at_ 5 _ rfl
          have clt := B1.lt
          go_wp2_with fail
          refine (H1.out _ ?_).mono ?_
          · exact (by repeat (first | exact Gr.refl _ | refine Gr.alloc ?_ | refine Gr.drew ?_ | refine Gr.trans ?_ (by assumption)))
          rintro e1 w2 ⟨rfl, hg1⟩
          have B2 := B1.gr hg1
          have c0 := B2.at_ 0 _ rfl
          have c1 := B2.at_ 1 _ rfl
          have c2 := B2.at_ 2 _ rfl
          have c3 := B2.at_ 3 _ rfl
          have c4 := B2.at_ 4 _ rfl
          have c5 := B2.at_ 5 _ rfl
          have clt := B2.lt
          go_wp2_with fail
          refine (H2.out _ ?_).mono ?_
          · exact (by repeat (first | exact Gr.refl _ | refine Gr.alloc ?_ | refine Gr.drew ?_ | refine Gr.trans ?_ (by assumption)))
          rintro e2 w3 ⟨rfl, hg2⟩
          have B3 := B2.gr hg2
          have c0 := B3.at_ 0 _ rfl
          have c1 := B3.at_ 1 _ rfl
          have c2 := B3.at_ 2 _ rfl
          have c3 := B3.at_ 3 _ rfl
          have c4 := B3.at_ 4 _ rfl
          have c5 := B3.at_ 5 _ rfl
          have clt := B3.lt
          go_wp2_with fail
          refine (H3.out _ ?_).mono ?_
          · exact (by repeat (first | exact Gr.refl _ | refine Gr.alloc ?_ | refine Gr.drew ?_ | refine Gr.trans ?_ (by assumption)))
          rintro e3 w4 ⟨rfl, hg3⟩
          have B4 := B3.gr hg3
          have c0 := B4.at_ 0 _ rfl
          have c1 := B4.at_ 1 _ rfl
          have c2 := B4.at_ 2 _ rfl
          have c3 := B4.at_ 3 _ rfl
          have c4 := B4.at_ 4 _ rfl
          have c5 := B4.at_ 5 _ rfl
          have clt := B4.lt
          go_wp2
          go_ret
          exact ⟨by rw [HE.out]; rfl, (by repeat (first | exact Gr.refl _ | refine Gr.alloc ?_ | refine Gr.drew ?_ | refine Gr.trans ?_ (by assumption)))⟩
end Go.Proofs.Ytilkfgpcibdikaa
