/- Parts of these proofs, laid together. -/
import Derived.Test.YtcmbppjfpdkblaaGreatDoorGN
import Derived.Test.YtcmbppjfpdkblaaGreatDoorGI
import Derived.Test.YtcmbppjfpdkblaaGreatDoorGM
/- note: what Check, Ends and Frame answer. -/
namespace Go.Proofs.YtcmbppjfpdkblaaGreatDoor
open Go.RowKit

theorem eqE (d : ByteArray) : d.toList.isEmpty = decide (d = ⟨#[]⟩) := by
  rw [ByteArray.toList_eq]
  by_cases h : d = ⟨#[]⟩
  · subst h; rfl
  · have : ¬ d.data.toList = [] := fun e => h (by cases d; simp at e; rw [e])
    rw [decide_eq_false h]; simpa using this

set_option maxHeartbeats 400000 in
theorem within_any (n l h : Int) (w : World) : Calls Tryz.prog 31 #[.int .i64 n, .int .i64 l, .int .i64 h] w fun e w' => e = .returned (.bool (Nt.inB n l h)) ∧ w' = w := by
  unfold Nt.inB
  by_cases a : l ≤ n
  · rw [decide_eq_true a, Bool.true_and]
    go_enter Tryz.func31, Tryz.ntmps31
    go_wp2
    go_ret
    exact ⟨rfl, rfl⟩
  · rw [decide_eq_false a, Bool.false_and]
    go_enter Tryz.func31, Tryz.ntmps31
    go_wp2
    go_ret
    exact ⟨rfl, rfl⟩
set_option maxHeartbeats 400000 in
theorem isOrg_any (n : Int) (w : World) : Calls Tryz.prog 43 #[.int .i64 n] w fun e w' => e = .returned (.bool (Nt.inB n 0 15)) ∧ w' = w := by
  have HW : Hid (∀ w', Calls Tryz.prog 31 #[.int .i64 n, .int .i64 0, .int .i64 15] w' fun e w2 => e = .returned (.bool (Nt.inB n 0 15)) ∧ w2 = w') := fun w' => within_any n 0 15 w'
  go_enter Tryz.func43, Tryz.ntmps43
  go_wp2_with fail
  refine (HW.out _).mono ?_
  rintro e1 w1 ⟨rfl, hw1⟩; obtain rfl := hw1.symm
  go_wp2
  go_ret
  exact ⟨rfl, rfl⟩
set_option maxHeartbeats 1000000 in
theorem isChild_any (r n : Int) (L : List (Int × Int)) (ad : Option Addr) (cap : Nat) (w : World) (hL : HopsAt w ad L) (hn : L.length ≤ 9223372036854775807) :
    Calls Tryz.prog 32 #[.agg #[.int .i64 r, .int .i64 n, .slice ad L.length cap]] w fun e w' => e = .returned (.bool (Idn.mayB r n L && decide (0 < L.length))) ∧ Gr w w' := by
  have HC : Hid (∀ w', Gr w w' → Calls Tryz.prog 54 #[.agg #[.int .i64 r, .int .i64 n, .slice ad L.length cap]] w' fun e w2 => e = .returned (.int .i64 (errB (Idn.mayB r n L))) ∧ Gr w' w2) := fun w' g => check_any r n L ad cap w' (hL.gr g) hn
  generalize Idn.mayB r n L = q at *
  clear hL
  cases q with
  | false =>
    rw [show errB false = 30 from rfl] at HC
    rw [Bool.false_and]
    go_enter Tryz.func32, Tryz.ntmps32
    go_wp2_with fail
    refine (HC.out _ (by repeat (first | exact Gr.refl _ | refine Gr.alloc ?_ | refine Gr.drew ?_ | refine Gr.trans ?_ (by assumption)))).mono ?_
    rintro e1 w1 ⟨rfl, hg1⟩
    go_wp2
    go_ret
    exact ⟨rfl, (by repeat (first | exact Gr.refl _ | refine Gr.alloc ?_ | refine Gr.drew ?_ | refine Gr.trans ?_ (by assumption)))⟩
  | true =>
    rw [show errB true = 0 from rfl] at HC
    rw [Bool.true_and]
    go_enter Tryz.func32, Tryz.ntmps32
    go_wp2_with fail
    refine (HC.out _ (by repeat (first | exact Gr.refl _ | refine Gr.alloc ?_ | refine Gr.drew ?_ | refine Gr.trans ?_ (by assumption)))).mono ?_
    rintro e1 w1 ⟨rfl, hg1⟩
    have B1 := (Cs.new w [.int .i64 r, .int .i64 n, .slice ad L.length cap] 24 _ rfl).gr hg1
    have c2 := B1.at_ 2 _ rfl
    go_wp2
    go_ret
    exact ⟨rfl, (by repeat (first | exact Gr.refl _ | refine Gr.alloc ?_ | refine Gr.drew ?_ | refine Gr.trans ?_ (by assumption)))⟩
set_option maxHeartbeats 1000000 in
theorem defFits_any (k r n : Int) (L : List (Int × Int)) (d : ByteArray) (y : Int) (ad : Option Addr) (cap : Nat) (w : World) (hd : d.size ≤ 9223372036854775807) :
    Calls Tryz.prog 33 #[.agg #[.int .i64 k, .int .i64 r, .int .i64 n, .slice ad L.length cap, .string d, .int .i64 y]] w fun e w' => e = .returned (.bool (Nt.dfB ⟨k, r, n, L, d, y⟩)) ∧ Gr w w' := by
  have HN : Hid (∀ w', Calls Tryz.prog 58 #[.string d] w' fun e w2 => e = .returned (.bool (Act.nameB d)) ∧ w2 = w') := fun w' => name_any d w' hd
  unfold Nt.dfB
  simp only
  by_cases a : k = 1
  · subst a
    rw [if_pos rfl]
    go_enter Tryz.func33, Tryz.ntmps33
    go_wp2_with fail
    refine (HN.out _).mono ?_
    rintro e1 w1 ⟨rfl, rfl⟩
    go_wp2
    go_ret
    exact ⟨rfl, (by repeat (first | exact Gr.refl _ | refine Gr.alloc ?_ | refine Gr.drew ?_ | refine Gr.trans ?_ (by assumption)))⟩
  · rw [if_neg a, ← eqE]
    have a' : (k == 1) = false := by simpa using a
    go_enter Tryz.func33, Tryz.ntmps33
    go_wp2
    go_ret
    exact ⟨rfl, (by repeat (first | exact Gr.refl _ | refine Gr.alloc ?_ | refine Gr.drew ?_ | refine Gr.trans ?_ (by assumption)))⟩
set_option maxHeartbeats 1000000 in
theorem whyFits_any (k r n : Int) (L : List (Int × Int)) (d : ByteArray) (y : Int) (ad : Option Addr) (cap : Nat) (w : World) :
    Calls Tryz.prog 34 #[.agg #[.int .i64 k, .int .i64 r, .int .i64 n, .slice ad L.length cap, .string d, .int .i64 y]] w fun e w' => e = .returned (.bool (Nt.wyB ⟨k, r, n, L, d, y⟩)) ∧ Gr w w' := by
  have HW : Hid (∀ w', Calls Tryz.prog 31 #[.int .i64 y, .int .i64 1, .int .i64 9] w' fun e w2 => e = .returned (.bool (Nt.inB y 1 9)) ∧ w2 = w') := fun w' => within_any y 1 9 w'
  unfold Nt.wyB
  simp only
  by_cases a : k = 6
  · subst a
    rw [if_pos rfl]
    go_enter Tryz.func34, Tryz.ntmps34
    go_wp2_with fail
    refine (HW.out _).mono ?_
    rintro e1 w1 ⟨rfl, rfl⟩
    go_wp2
    go_ret
    exact ⟨rfl, (by repeat (first | exact Gr.refl _ | refine Gr.alloc ?_ | refine Gr.drew ?_ | refine Gr.trans ?_ (by assumption)))⟩
  · rw [if_neg a]
    have a' : (k == 6) = false := by simpa using a
    have b' : (y == 0) = decide (y = 0) := by rfl
    go_enter Tryz.func34, Tryz.ntmps34
    go_wp2
    go_ret
    exact ⟨rfl, (by repeat (first | exact Gr.refl _ | refine Gr.alloc ?_ | refine Gr.drew ?_ | refine Gr.trans ?_ (by assumption)))⟩
set_option maxHeartbeats 2000000 in
theorem isEmpty_any (k r n : Int) (L : List (Int × Int)) (d : ByteArray) (y : Int) (ad : Option Addr) (cap : Nat) (w : World) :
    Calls Tryz.prog 67 #[.agg #[.int .i64 k, .int .i64 r, .int .i64 n, .slice ad L.length cap, .string d, .int .i64 y]] w fun e w' => e = .returned (.bool (Nt.emB ⟨k, r, n, L, d, y⟩)) ∧ Gr w w' := by
  have hk : (k == 0) = decide (k = 0) := rfl
  have hr : (r == 0) = decide (r = 0) := rfl
  have hm : (n == 0) = decide (n = 0) := rfl
  have hl : ((L.length : Int) == 0) = decide (L.length = 0) := by
    by_cases h : L.length = 0 <;> simp [h]
  have hs := eqE d
  have hy : (y == 0) = decide (y = 0) := rfl
  unfold Nt.emB
  simp only
  rw [← hk, ← hr, ← hm, ← hl, ← hs, ← hy]
  clear hk hr hm hl hs hy
  cases h0 : (k == 0) with
  | false =>
    simp only [Bool.false_and]
    go_enter Tryz.func67, Tryz.ntmps67
    go_wp2
    go_ret
    exact ⟨rfl, (by repeat (first | exact Gr.refl _ | refine Gr.alloc ?_ | refine Gr.drew ?_ | refine Gr.trans ?_ (by assumption)))⟩
  | true =>
    cases h1 : (r == 0) with
    | false =>
      simp only [Bool.false_and, Bool.true_and]
      go_enter Tryz.func67, Tryz.ntmps67
      go_wp2
      go_ret
      exact ⟨rfl, (by repeat (first | exact Gr.refl _ | refine Gr.alloc ?_ | refine Gr.drew ?_ | refine Gr.trans ?_ (by assumption)))⟩
    | true =>
      cases h2 : (n == 0) with
      | false =>
        simp only [Bool.false_and, Bool.true_and]
        go_enter Tryz.func67, Tryz.ntmps67
        go_wp2
        go_ret
        exact ⟨rfl, (by repeat (first | exact Gr.refl _ | refine Gr.alloc ?_ | refine Gr.drew ?_ | refine Gr.trans ?_ (by assumption)))⟩
      | true =>
        cases h3 : ((L.length : Int) == 0) with
        | false =>
          simp only [Bool.false_and, Bool.true_and]
          go_enter Tryz.func67, Tryz.ntmps67
          go_wp2
          go_ret
          exact ⟨rfl, (by repeat (first | exact Gr.refl _ | refine Gr.alloc ?_ | refine Gr.drew ?_ | refine Gr.trans ?_ (by assumption)))⟩
        | true =>
          cases h4 : (d.toList.isEmpty) with
          | false =>
            simp only [Bool.false_and, Bool.true_and]
            go_enter Tryz.func67, Tryz.ntmps67
            go_wp2
            go_ret
            exact ⟨rfl, (by repeat (first | exact Gr.refl _ | refine Gr.alloc ?_ | refine Gr.drew ?_ | refine Gr.trans ?_ (by assumption)))⟩
          | true =>
            simp only [Bool.true_and]
            go_enter Tryz.func67, Tryz.ntmps67
            go_wp2
            go_ret
            exact ⟨rfl, (by repeat (first | exact Gr.refl _ | refine Gr.alloc ?_ | refine Gr.drew ?_ | refine Gr.trans ?_ (by assumption)))⟩
set_option maxHeartbeats 2000000 in
theorem nCheck_any (k r n : Int) (L : List (Int × Int)) (d : ByteArray) (y : Int) (ad : Option Addr) (cap : Nat) (w : World) (hL : HopsAt w ad L) (hn : L.length ≤ 9223372036854775807) (hd : d.size ≤ 9223372036854775807) :
    Calls Tryz.prog 14 #[.agg #[.int .i64 k, .int .i64 r, .int .i64 n, .slice ad L.length cap, .string d, .int .i64 y]] w fun e w' => e = .returned (.int .i64 (Nt.ckE ⟨k, r, n, L, d, y⟩)) ∧ Gr w w' := by
  have H0 : Hid (∀ w', Gr w w' → Calls Tryz.prog 31 #[.int .i64 k, .int .i64 1, .int .i64 7] w' fun e w2 => e = .returned (.bool (Nt.inB k 1 7)) ∧ Gr w' w2) := fun w' _ => (within_any k 1 7 w').mono (by rintro e w2 ⟨rfl, rfl⟩; exact ⟨rfl, Gr.refl _⟩)
  have H1 : Hid (∀ w', Gr w w' → Calls Tryz.prog 32 #[.agg #[.int .i64 r, .int .i64 n, .slice ad L.length cap]] w' fun e w2 => e = .returned (.bool (Nt.chB ⟨k, r, n, L, d, y⟩)) ∧ Gr w' w2) := fun w' g => isChild_any r n L ad cap w' (hL.gr g) hn
  have H2 : Hid (∀ w', Gr w w' → Calls Tryz.prog 33 #[.agg #[.int .i64 k, .int .i64 r, .int .i64 n, .slice ad L.length cap, .string d, .int .i64 y]] w' fun e w2 => e = .returned (.bool (Nt.dfB ⟨k, r, n, L, d, y⟩)) ∧ Gr w' w2) := fun w' _ => defFits_any k r n L d y ad cap w' hd
  have H3 : Hid (∀ w', Gr w w' → Calls Tryz.prog 34 #[.agg #[.int .i64 k, .int .i64 r, .int .i64 n, .slice ad L.length cap, .string d, .int .i64 y]] w' fun e w2 => e = .returned (.bool (Nt.wyB ⟨k, r, n, L, d, y⟩)) ∧ Gr w' w2) := fun w' _ => whyFits_any k r n L d y ad cap w'
  have HE : Hid (Nt.ckE ⟨k, r, n, L, d, y⟩ = if (Nt.inB k 1 7 && Nt.chB ⟨k, r, n, L, d, y⟩ && Nt.dfB ⟨k, r, n, L, d, y⟩ && Nt.wyB ⟨k, r, n, L, d, y⟩) = true then 0 else 130) := rfl
  generalize Nt.ckE ⟨k, r, n, L, d, y⟩ = R at *
  generalize Nt.inB k 1 7 = b0 at *
  generalize Nt.chB ⟨k, r, n, L, d, y⟩ = b1 at *
  generalize Nt.dfB ⟨k, r, n, L, d, y⟩ = b2 at *
  generalize Nt.wyB ⟨k, r, n, L, d, y⟩ = b3 at *
  clear hL hn hd
  cases b0 with
  | false =>
    go_enter Tryz.func14, Tryz.ntmps14
    go_wp2_with fail
    refine (H0.out _ ?_).mono ?_
    · exact (by repeat (first | exact Gr.refl _ | refine Gr.alloc ?_ | refine Gr.drew ?_ | refine Gr.trans ?_ (by assumption)))
    rintro e0 w1 ⟨rfl, hg0⟩
    have B1 := (Cs.new w [.int .i64 k, .int .i64 r, .int .i64 n, .slice ad L.length cap, .string d, .int .i64 y] 26 _ rfl).gr hg0
    have c0 := B1.at_ 0 _ rfl
    have c1 := B1.at_ 1 _ rfl
    have c2 := B1.at_ 2 _ rfl
    have c3 := B1.at_ 3 _ rfl
    have c4 := B1.at_ 4 _ rfl
    have c5 := B1.at_ 5 _ rfl
    have clt := B1.lt
    go_wp2
    go_ret
    exact ⟨by rw [HE.out]; rfl, (by repeat (first | exact Gr.refl _ | refine Gr.alloc ?_ | refine Gr.drew ?_ | refine Gr.trans ?_ (by assumption)))⟩
  | true =>
    cases b1 with
    | false =>
      go_enter Tryz.func14, Tryz.ntmps14
      go_wp2_with fail
      refine (H0.out _ ?_).mono ?_
      · exact (by repeat (first | exact Gr.refl _ | refine Gr.alloc ?_ | refine Gr.drew ?_ | refine Gr.trans ?_ (by assumption)))
      rintro e0 w1 ⟨rfl, hg0⟩
      have B1 := (Cs.new w [.int .i64 k, .int .i64 r, .int .i64 n, .slice ad L.length cap, .string d, .int .i64 y] 26 _ rfl).gr hg0
      have c0 := B1.at_ 0 _ rfl
      have c1 := B1.at_ 1 _ rfl
      have c2 := B1.at_ 2 _ rfl
      have c3 := B1.at_ 3 _ rfl
      have c4 := B1.at_ 4 _ rfl
      have c5 := B1.at_ 5 _ rfl
      have clt := B1.lt
      go_wp2_with fail
      refine (H1.out _ ?_).mono ?_
      · exact (by repeat (first | exact Gr.refl _ | refine Gr.alloc ?_ | refine Gr.drew ?_ | refine Gr.trans ?_ (by assumption)))
      rintro e1 w2 ⟨rfl, hg1⟩
      have B2 := B1.gr hg1
      have c0 := B2.at_ 0 _ rfl
      have c1 := B2.at_ 1 _ rfl
      have c2 := B2.at_ 2 _ rfl
      have c3 := B2.at_ 3 _ rfl
      have c4 := B2.at_ 4 _ rfl
      have c5 := B2.at_ 5 _ rfl
      have clt := B2.lt
      go_wp2
      go_ret
      exact ⟨by rw [HE.out]; rfl, (by repeat (first | exact Gr.refl _ | refine Gr.alloc ?_ | refine Gr.drew ?_ | refine Gr.trans ?_ (by assumption)))⟩
    | true =>
      cases b2 with
      | false =>
        go_enter Tryz.func14, Tryz.ntmps14
        go_wp2_with fail
        refine (H0.out _ ?_).mono ?_
        · exact (by repeat (first | exact Gr.refl _ | refine Gr.alloc ?_ | refine Gr.drew ?_ | refine Gr.trans ?_ (by assumption)))
        rintro e0 w1 ⟨rfl, hg0⟩
        have B1 := (Cs.new w [.int .i64 k, .int .i64 r, .int .i64 n, .slice ad L.length cap, .string d, .int .i64 y] 26 _ rfl).gr hg0
        have c0 := B1.at_ 0 _ rfl
        have c1 := B1.at_ 1 _ rfl
        have c2 := B1.at_ 2 _ rfl
        have c3 := B1.at_ 3 _ rfl
        have c4 := B1.at_ 4 _ rfl
        have c5 := B1.at_ 5 _ rfl
        have clt := B1.lt
        go_wp2_with fail
        refine (H1.out _ ?_).mono ?_
        · exact (by repeat (first | exact Gr.refl _ | refine Gr.alloc ?_ | refine Gr.drew ?_ | refine Gr.trans ?_ (by assumption)))
        rintro e1 w2 ⟨rfl, hg1⟩
        have B2 := B1.gr hg1
        have c0 := B2.at_ 0 _ rfl
        have c1 := B2.at_ 1 _ rfl
        have c2 := B2.at_ 2 _ rfl
        have c3 := B2.at_ 3 _ rfl
        have c4 := B2.at_ 4 _ rfl
        have c5 := B2.at_ 5 _ rfl
        have clt := B2.lt
        go_wp2_with fail
        refine (H2.out _ ?_).mono ?_
        · exact (by repeat (first | exact Gr.refl _ | refine Gr.alloc ?_ | refine Gr.drew ?_ | refine Gr.trans ?_ (by assumption)))
        rintro e2 w3 ⟨rfl, hg2⟩
        have B3 := B2.gr hg2
        have c0 := B3.at_ 0 _ rfl
        have c1 := B3.at_ 1 _ rfl
        have c2 := B3.at_ 2 _ rfl
        have c3 := B3.at_ 3 _ rfl
        have c4 := B3.at_ 4 _ rfl
        have c5 := B3.at_ 5 _ rfl
        have clt := B3.lt
        go_wp2
        go_ret
        exact ⟨by rw [HE.out]; rfl, (by repeat (first | exact Gr.refl _ | refine Gr.alloc ?_ | refine Gr.drew ?_ | refine Gr.trans ?_ (by assumption)))⟩
      | true =>
        cases b3 with
        | false =>
          go_enter Tryz.func14, Tryz.ntmps14
          go_wp2_with fail
          refine (H0.out _ ?_).mono ?_
          · exact (by repeat (first | exact Gr.refl _ | refine Gr.alloc ?_ | refine Gr.drew ?_ | refine Gr.trans ?_ (by assumption)))
          rintro e0 w1 ⟨rfl, hg0⟩
          have B1 := (Cs.new w [.int .i64 k, .int .i64 r, .int .i64 n, .slice ad L.length cap, .string d, .int .i64 y] 26 _ rfl).gr hg0
          have c0 := B1.at_ 0 _ rfl
          have c1 := B1.at_ 1 _ rfl
          have c2 := B1.at_ 2 _ rfl
          have c3 := B1.at_ 3 _ rfl
          have c4 := B1.at_ 4 _ rfl
          have c5 := B1.at_ 5 _ rfl
          have clt := B1.lt
          go_wp2_with fail
          refine (H1.out _ ?_).mono ?_
          · exact (by repeat (first | exact Gr.refl _ | refine Gr.alloc ?_ | refine Gr.drew ?_ | refine Gr.trans ?_ (by assumption)))
          rintro e1 w2 ⟨rfl, hg1⟩
          have B2 := B1.gr hg1
          have c0 := B2.at_ 0 _ rfl
          have c1 := B2.at_ 1 _ rfl
          have c2 := B2.at_ 2 _ rfl
          have c3 := B2.at_ 3 _ rfl
          have c4 := B2.at_ 4 _ rfl
          have c5 := B2.at_ 5 _ rfl
          have clt := B2.lt
          go_wp2_with fail
          refine (H2.out _ ?_).mono ?_
          · exact (by repeat (first | exact Gr.refl _ | refine Gr.alloc ?_ | refine Gr.drew ?_ | refine Gr.trans ?_ (by assumption)))
          rintro e2 w3 ⟨rfl, hg2⟩
          have B3 := B2.gr hg2
          have c0 := B3.at_ 0 _ rfl
          have c1 := B3.at_ 1 _ rfl
          have c2 := B3.at_ 2 _ rfl
          have c3 := B3.at_ 3 _ rfl
          have c4 := B3.at_ 4 _ rfl
          have c5 := B3.at_ 5 _ rfl
          have clt := B3.lt
          go_wp2_with fail
          refine (H3.out _ ?_).mono ?_
          · exact (by repeat (first | exact Gr.refl _ | refine Gr.alloc ?_ | refine Gr.drew ?_ | refine Gr.trans ?_ (by assumption)))
          rintro e3 w4 ⟨rfl, hg3⟩
          have B4 := B3.gr hg3
          have c0 := B4.at_ 0 _ rfl
          have c1 := B4.at_ 1 _ rfl
          have c2 := B4.at_ 2 _ rfl
          have c3 := B4.at_ 3 _ rfl
          have c4 := B4.at_ 4 _ rfl
          have c5 := B4.at_ 5 _ rfl
          have clt := B4.lt
          go_wp2
          go_ret
          exact ⟨by rw [HE.out]; rfl, (by repeat (first | exact Gr.refl _ | refine Gr.alloc ?_ | refine Gr.drew ?_ | refine Gr.trans ?_ (by assumption)))⟩
        | true =>
          go_enter Tryz.func14, Tryz.ntmps14
          go_wp2_with fail
          refine (H0.out _ ?_).mono ?_
          · exact (by repeat (first | exact Gr.refl _ | refine Gr.alloc ?_ | refine Gr.drew ?_ | refine Gr.trans ?_ (by assumption)))
          rintro e0 w1 ⟨rfl, hg0⟩
          have B1 := (Cs.new w [.int .i64 k, .int .i64 r, .int .i64 n, .slice ad L.length cap, .string d, .int .i64 y] 26 _ rfl).gr hg0
          have c0 := B1.at_ 0 _ rfl
          have c1 := B1.at_ 1 _ rfl
          have c2 := B1.at_ 2 _ rfl
          have c3 := B1.at_ 3 _ rfl
          have c4 := B1.at_ 4 _ rfl
          have c5 := B1.at_ 5 _ rfl
          have clt := B1.lt
          go_wp2_with fail
          refine (H1.out _ ?_).mono ?_
          · exact (by repeat (first | exact Gr.refl _ | refine Gr.alloc ?_ | refine Gr.drew ?_ | refine Gr.trans ?_ (by assumption)))
          rintro e1 w2 ⟨rfl, hg1⟩
          have B2 := B1.gr hg1
          have c0 := B2.at_ 0 _ rfl
          have c1 := B2.at_ 1 _ rfl
          have c2 := B2.at_ 2 _ rfl
          have c3 := B2.at_ 3 _ rfl
          have c4 := B2.at_ 4 _ rfl
          have c5 := B2.at_ 5 _ rfl
          have clt := B2.lt
          go_wp2_with fail
          refine (H2.out _ ?_).mono ?_
          · exact (by repeat (first | exact Gr.refl _ | refine Gr.alloc ?_ | refine Gr.drew ?_ | refine Gr.trans ?_ (by assumption)))
          rintro e2 w3 ⟨rfl, hg2⟩
          have B3 := B2.gr hg2
          have c0 := B3.at_ 0 _ rfl
          have c1 := B3.at_ 1 _ rfl
          have c2 := B3.at_ 2 _ rfl
          have c3 := B3.at_ 3 _ rfl
          have c4 := B3.at_ 4 _ rfl
          have c5 := B3.at_ 5 _ rfl
          have clt := B3.lt
          go_wp2_with fail
          refine (H3.out _ ?_).mono ?_
          · exact (by repeat (first | exact Gr.refl _ | refine Gr.alloc ?_ | refine Gr.drew ?_ | refine Gr.trans ?_ (by assumption)))
          rintro e3 w4 ⟨rfl, hg3⟩
          have B4 := B3.gr hg3
          have c0 := B4.at_ 0 _ rfl
          have c1 := B4.at_ 1 _ rfl
          have c2 := B4.at_ 2 _ rfl
          have c3 := B4.at_ 3 _ rfl
          have c4 := B4.at_ 4 _ rfl
          have c5 := B4.at_ 5 _ rfl
          have clt := B4.lt
          go_wp2
          go_ret
          exact ⟨by rw [HE.out]; rfl, (by repeat (first | exact Gr.refl _ | refine Gr.alloc ?_ | refine Gr.drew ?_ | refine Gr.trans ?_ (by assumption)))⟩
set_option maxHeartbeats 2000000 in
theorem countsFit_any (fr tx ep sq ae ac k r n : Int) (L : List (Int × Int)) (d : ByteArray) (y : Int) (ad : Option Addr) (cap : Nat) (w : World) :
    Calls Tryz.prog 44 #[.agg #[.int .i64 fr, .int .i64 tx, .int .i64 ep, .int .i64 sq, .int .i64 ae, .int .i64 ac, .int .i64 k, .int .i64 r, .int .i64 n, .slice ad L.length cap, .string d, .int .i64 y]] w fun e w' => e = .returned (.bool (Nt.cnB ⟨fr, tx, ep, sq, ae, ac, ⟨k, r, n, L, d, y⟩⟩)) ∧ Gr w w' := by
  have H0 : Hid (∀ w', Gr w w' → Calls Tryz.prog 31 #[.int .i64 ep, .int .i64 1, .int .i64 1000000000] w' fun e w2 => e = .returned (.bool (Nt.inB ep 1 1000000000)) ∧ Gr w' w2) := fun w' _ => (within_any ep 1 1000000000 w').mono (by rintro e w2 ⟨rfl, rfl⟩; exact ⟨rfl, Gr.refl _⟩)
  have H1 : Hid (∀ w', Gr w w' → Calls Tryz.prog 31 #[.int .i64 sq, .int .i64 0, .int .i64 1000000000] w' fun e w2 => e = .returned (.bool (Nt.inB sq 0 1000000000)) ∧ Gr w' w2) := fun w' _ => (within_any sq 0 1000000000 w').mono (by rintro e w2 ⟨rfl, rfl⟩; exact ⟨rfl, Gr.refl _⟩)
  have H2 : Hid (∀ w', Gr w w' → Calls Tryz.prog 31 #[.int .i64 ae, .int .i64 0, .int .i64 1000000000] w' fun e w2 => e = .returned (.bool (Nt.inB ae 0 1000000000)) ∧ Gr w' w2) := fun w' _ => (within_any ae 0 1000000000 w').mono (by rintro e w2 ⟨rfl, rfl⟩; exact ⟨rfl, Gr.refl _⟩)
  have H3 : Hid (∀ w', Gr w w' → Calls Tryz.prog 31 #[.int .i64 ac, .int .i64 0, .int .i64 1000000000] w' fun e w2 => e = .returned (.bool (Nt.inB ac 0 1000000000)) ∧ Gr w' w2) := fun w' _ => (within_any ac 0 1000000000 w').mono (by rintro e w2 ⟨rfl, rfl⟩; exact ⟨rfl, Gr.refl _⟩)
  have HE : Hid (Nt.cnB ⟨fr, tx, ep, sq, ae, ac, ⟨k, r, n, L, d, y⟩⟩ = (Nt.inB ep 1 1000000000 && Nt.inB sq 0 1000000000 && Nt.inB ae 0 1000000000 && Nt.inB ac 0 1000000000)) := rfl
  generalize Nt.cnB ⟨fr, tx, ep, sq, ae, ac, ⟨k, r, n, L, d, y⟩⟩ = R at *
  generalize Nt.inB ep 1 1000000000 = b0 at *
  generalize Nt.inB sq 0 1000000000 = b1 at *
  generalize Nt.inB ae 0 1000000000 = b2 at *
  generalize Nt.inB ac 0 1000000000 = b3 at *
  cases b0 with
  | false =>
    go_enter Tryz.func44, Tryz.ntmps44
    go_wp2_with fail
    refine (H0.out _ ?_).mono ?_
    · exact (by repeat (first | exact Gr.refl _ | refine Gr.alloc ?_ | refine Gr.drew ?_ | refine Gr.trans ?_ (by assumption)))
    rintro e0 w1 ⟨rfl, hg0⟩
    have B1 := (Cs.new w [.int .i64 fr, .int .i64 tx, .int .i64 ep, .int .i64 sq, .int .i64 ae, .int .i64 ac, .int .i64 k, .int .i64 r, .int .i64 n, .slice ad L.length cap, .string d, .int .i64 y] 39 _ rfl).gr hg0
    have c0 := B1.at_ 0 _ rfl
    have c1 := B1.at_ 1 _ rfl
    have c2 := B1.at_ 2 _ rfl
    have c3 := B1.at_ 3 _ rfl
    have c4 := B1.at_ 4 _ rfl
    have c5 := B1.at_ 5 _ rfl
    have c6 := B1.at_ 6 _ rfl
    have c7 := B1.at_ 7 _ rfl
    have c8 := B1.at_ 8 _ rfl
    have c9 := B1.at_ 9 _ rfl
    have c10 := B1.at_ 10 _ rfl
    have c11 := B1.at_ 11 _ rfl
    have clt := B1.lt
    go_wp2
    go_ret
    exact ⟨by rw [HE.out]; rfl, (by repeat (first | exact Gr.refl _ | refine Gr.alloc ?_ | refine Gr.drew ?_ | refine Gr.trans ?_ (by assumption)))⟩
  | true =>
    cases b1 with
    | false =>
      go_enter Tryz.func44, Tryz.ntmps44
      go_wp2_with fail
      refine (H0.out _ ?_).mono ?_
      · exact (by repeat (first | exact Gr.refl _ | refine Gr.alloc ?_ | refine Gr.drew ?_ | refine Gr.trans ?_ (by assumption)))
      rintro e0 w1 ⟨rfl, hg0⟩
      have B1 := (Cs.new w [.int .i64 fr, .int .i64 tx, .int .i64 ep, .int .i64 sq, .int .i64 ae, .int .i64 ac, .int .i64 k, .int .i64 r, .int .i64 n, .slice ad L.length cap, .string d, .int .i64 y] 39 _ rfl).gr hg0
      have c0 := B1.at_ 0 _ rfl
      have c1 := B1.at_ 1 _ rfl
      have c2 := B1.at_ 2 _ rfl
      have c3 := B1.at_ 3 _ rfl
      have c4 := B1.at_ 4 _ rfl
      have c5 := B1.at_ 5 _ rfl
      have c6 := B1.at_ 6 _ rfl
      have c7 := B1.at_ 7 _ rfl
      have c8 := B1.at_ 8 _ rfl
      have c9 := B1.at_ 9 _ rfl
      have c10 := B1.at_ 10 _ rfl
      have c11 := B1.at_ 11 _ rfl
      have clt := B1.lt
      go_wp2_with fail
      refine (H1.out _ ?_).mono ?_
      · exact (by repeat (first | exact Gr.refl _ | refine Gr.alloc ?_ | refine Gr.drew ?_ | refine Gr.trans ?_ (by assumption)))
      rintro e1 w2 ⟨rfl, hg1⟩
      have B2 := B1.gr hg1
      have c0 := B2.at_ 0 _ rfl
      have c1 := B2.at_ 1 _ rfl
      have c2 := B2.at_ 2 _ rfl
      have c3 := B2.at_ 3 _ rfl
      have c4 := B2.at_ 4 _ rfl
      have c5 := B2.at_ 5 _ rfl
      have c6 := B2.at_ 6 _ rfl
      have c7 := B2.at_ 7 _ rfl
      have c8 := B2.at_ 8 _ rfl
      have c9 := B2.at_ 9 _ rfl
      have c10 := B2.at_ 10 _ rfl
      have c11 := B2.at_ 11 _ rfl
      have clt := B2.lt
      go_wp2
      go_ret
      exact ⟨by rw [HE.out]; rfl, (by repeat (first | exact Gr.refl _ | refine Gr.alloc ?_ | refine Gr.drew ?_ | refine Gr.trans ?_ (by assumption)))⟩
    | true =>
      cases b2 with
      | false =>
        go_enter Tryz.func44, Tryz.ntmps44
        go_wp2_with fail
        refine (H0.out _ ?_).mono ?_
        · exact (by repeat (first | exact Gr.refl _ | refine Gr.alloc ?_ | refine Gr.drew ?_ | refine Gr.trans ?_ (by assumption)))
        rintro e0 w1 ⟨rfl, hg0⟩
        have B1 := (Cs.new w [.int .i64 fr, .int .i64 tx, .int .i64 ep, .int .i64 sq, .int .i64 ae, .int .i64 ac, .int .i64 k, .int .i64 r, .int .i64 n, .slice ad L.length cap, .string d, .int .i64 y] 39 _ rfl).gr hg0
        have c0 := B1.at_ 0 _ rfl
        have c1 := B1.at_ 1 _ rfl
        have c2 := B1.at_ 2 _ rfl
        have c3 := B1.at_ 3 _ rfl
        have c4 := B1.at_ 4 _ rfl
        have c5 := B1.at_ 5 _ rfl
        have c6 := B1.at_ 6 _ rfl
        have c7 := B1.at_ 7 _ rfl
        have c8 := B1.at_ 8 _ rfl
        have c9 := B1.at_ 9 _ rfl
        have c10 := B1.at_ 10 _ rfl
        have c11 := B1.at_ 11 _ rfl
        have clt := B1.lt
        go_wp2_with fail
        refine (H1.out _ ?_).mono ?_
        · exact (by repeat (first | exact Gr.refl _ | refine Gr.alloc ?_ | refine Gr.drew ?_ | refine Gr.trans ?_ (by assumption)))
        rintro e1 w2 ⟨rfl, hg1⟩
        have B2 := B1.gr hg1
        have c0 := B2.at_ 0 _ rfl
        have c1 := B2.at_ 1 _ rfl
        have c2 := B2.at_ 2 _ rfl
        have c3 := B2.at_ 3 _ rfl
        have c4 := B2.at_ 4 _ rfl
        have c5 := B2.at_ 5 _ rfl
        have c6 := B2.at_ 6 _ rfl
        have c7 := B2.at_ 7 _ rfl
        have c8 := B2.at_ 8 _ rfl
        have c9 := B2.at_ 9 _ rfl
        have c10 := B2.at_ 10 _ rfl
        have c11 := B2.at_ 11 _ rfl
        have clt := B2.lt
        go_wp2_with fail
        refine (H2.out _ ?_).mono ?_
        · exact (by repeat (first | exact Gr.refl _ | refine Gr.alloc ?_ | refine Gr.drew ?_ | refine Gr.trans ?_ (by assumption)))
        rintro e2 w3 ⟨rfl, hg2⟩
        have B3 := B2.gr hg2
        have c0 := B3.at_ 0 _ rfl
        have c1 := B3.at_ 1 _ rfl
        have c2 := B3.at_ 2 _ rfl
        have c3 := B3.at_ 3 _ rfl
        have c4 := B3.at_ 4 _ rfl
        have c5 := B3.at_ 5 _ rfl
        have c6 := B3.at_ 6 _ rfl
        have c7 := B3.at_ 7 _ rfl
        have c8 := B3.at_ 8 _ rfl
        have c9 := B3.at_ 9 _ rfl
        have c10 := B3.at_ 10 _ rfl
        have c11 := B3.at_ 11 _ rfl
        have clt := B3.lt
        go_wp2
        go_ret
        exact ⟨by rw [HE.out]; rfl, (by repeat (first | exact Gr.refl _ | refine Gr.alloc ?_ | refine Gr.drew ?_ | refine Gr.trans ?_ (by assumption)))⟩
      | true =>
        cases b3 with
        | false =>
          go_enter Tryz.func44, Tryz.ntmps44
          go_wp2_with fail
          refine (H0.out _ ?_).mono ?_
          · exact (by repeat (first | exact Gr.refl _ | refine Gr.alloc ?_ | refine Gr.drew ?_ | refine Gr.trans ?_ (by assumption)))
          rintro e0 w1 ⟨rfl, hg0⟩
          have B1 := (Cs.new w [.int .i64 fr, .int .i64 tx, .int .i64 ep, .int .i64 sq, .int .i64 ae, .int .i64 ac, .int .i64 k, .int .i64 r, .int .i64 n, .slice ad L.length cap, .string d, .int .i64 y] 39 _ rfl).gr hg0
          have c0 := B1.at_ 0 _ rfl
          have c1 := B1.at_ 1 _ rfl
          have c2 := B1.at_ 2 _ rfl
          have c3 := B1.at_ 3 _ rfl
          have c4 := B1.at_ 4 _ rfl
          have c5 := B1.at_ 5 _ rfl
          have c6 := B1.at_ 6 _ rfl
          have c7 := B1.at_ 7 _ rfl
          have c8 := B1.at_ 8 _ rfl
          have c9 := B1.at_ 9 _ rfl
          have c10 := B1.at_ 10 _ rfl
          have c11 := B1.at_ 11 _ rfl
          have clt := B1.lt
          go_wp2_with fail
          refine (H1.out _ ?_).mono ?_
          · exact (by repeat (first | exact Gr.refl _ | refine Gr.alloc ?_ | refine Gr.drew ?_ | refine Gr.trans ?_ (by assumption)))
          rintro e1 w2 ⟨rfl, hg1⟩
          have B2 := B1.gr hg1
          have c0 := B2.at_ 0 _ rfl
          have c1 := B2.at_ 1 _ rfl
          have c2 := B2.at_ 2 _ rfl
          have c3 := B2.at_ 3 _ rfl
          have c4 := B2.at_ 4 _ rfl
          have c5 := B2.at_ 5 _ rfl
          have c6 := B2.at_ 6 _ rfl
          have c7 := B2.at_ 7 _ rfl
          have c8 := B2.at_ 8 _ rfl
          have c9 := B2.at_ 9 _ rfl
          have c10 := B2.at_ 10 _ rfl
          have c11 := B2.at_ 11 _ rfl
          have clt := B2.lt
          go_wp2_with fail
          refine (H2.out _ ?_).mono ?_
          · exact (by repeat (first | exact Gr.refl _ | refine Gr.alloc ?_ | refine Gr.drew ?_ | refine Gr.trans ?_ (by assumption)))
          rintro e2 w3 ⟨rfl, hg2⟩
          have B3 := B2.gr hg2
          have c0 := B3.at_ 0 _ rfl
          have c1 := B3.at_ 1 _ rfl
          have c2 := B3.at_ 2 _ rfl
          have c3 := B3.at_ 3 _ rfl
          have c4 := B3.at_ 4 _ rfl
          have c5 := B3.at_ 5 _ rfl
          have c6 := B3.at_ 6 _ rfl
          have c7 := B3.at_ 7 _ rfl
          have c8 := B3.at_ 8 _ rfl
          have c9 := B3.at_ 9 _ rfl
          have c10 := B3.at_ 10 _ rfl
          have c11 := B3.at_ 11 _ rfl
          have clt := B3.lt
          go_wp2_with fail
          refine (H3.out _ ?_).mono ?_
          · exact (by repeat (first | exact Gr.refl _ | refine Gr.alloc ?_ | refine Gr.drew ?_ | refine Gr.trans ?_ (by assumption)))
          rintro e3 w4 ⟨rfl, hg3⟩
          have B4 := B3.gr hg3
          have c0 := B4.at_ 0 _ rfl
          have c1 := B4.at_ 1 _ rfl
          have c2 := B4.at_ 2 _ rfl
          have c3 := B4.at_ 3 _ rfl
          have c4 := B4.at_ 4 _ rfl
          have c5 := B4.at_ 5 _ rfl
          have c6 := B4.at_ 6 _ rfl
          have c7 := B4.at_ 7 _ rfl
          have c8 := B4.at_ 8 _ rfl
          have c9 := B4.at_ 9 _ rfl
          have c10 := B4.at_ 10 _ rfl
          have c11 := B4.at_ 11 _ rfl
          have clt := B4.lt
          go_wp2
          go_ret
          exact ⟨by rw [HE.out]; rfl, (by repeat (first | exact Gr.refl _ | refine Gr.alloc ?_ | refine Gr.drew ?_ | refine Gr.trans ?_ (by assumption)))⟩
        | true =>
          go_enter Tryz.func44, Tryz.ntmps44
          go_wp2_with fail
          refine (H0.out _ ?_).mono ?_
          · exact (by repeat (first | exact Gr.refl _ | refine Gr.alloc ?_ | refine Gr.drew ?_ | refine Gr.trans ?_ (by assumption)))
          rintro e0 w1 ⟨rfl, hg0⟩
          have B1 := (Cs.new w [.int .i64 fr, .int .i64 tx, .int .i64 ep, .int .i64 sq, .int .i64 ae, .int .i64 ac, .int .i64 k, .int .i64 r, .int .i64 n, .slice ad L.length cap, .string d, .int .i64 y] 39 _ rfl).gr hg0
          have c0 := B1.at_ 0 _ rfl
          have c1 := B1.at_ 1 _ rfl
          have c2 := B1.at_ 2 _ rfl
          have c3 := B1.at_ 3 _ rfl
          have c4 := B1.at_ 4 _ rfl
          have c5 := B1.at_ 5 _ rfl
          have c6 := B1.at_ 6 _ rfl
          have c7 := B1.at_ 7 _ rfl
          have c8 := B1.at_ 8 _ rfl
          have c9 := B1.at_ 9 _ rfl
          have c10 := B1.at_ 10 _ rfl
          have c11 := B1.at_ 11 _ rfl
          have clt := B1.lt
          go_wp2_with fail
          refine (H1.out _ ?_).mono ?_
          · exact (by repeat (first | exact Gr.refl _ | refine Gr.alloc ?_ | refine Gr.drew ?_ | refine Gr.trans ?_ (by assumption)))
          rintro e1 w2 ⟨rfl, hg1⟩
          have B2 := B1.gr hg1
          have c0 := B2.at_ 0 _ rfl
          have c1 := B2.at_ 1 _ rfl
          have c2 := B2.at_ 2 _ rfl
          have c3 := B2.at_ 3 _ rfl
          have c4 := B2.at_ 4 _ rfl
          have c5 := B2.at_ 5 _ rfl
          have c6 := B2.at_ 6 _ rfl
          have c7 := B2.at_ 7 _ rfl
          have c8 := B2.at_ 8 _ rfl
          have c9 := B2.at_ 9 _ rfl
          have c10 := B2.at_ 10 _ rfl
          have c11 := B2.at_ 11 _ rfl
          have clt := B2.lt
          go_wp2_with fail
          refine (H2.out _ ?_).mono ?_
          · exact (by repeat (first | exact Gr.refl _ | refine Gr.alloc ?_ | refine Gr.drew ?_ | refine Gr.trans ?_ (by assumption)))
          rintro e2 w3 ⟨rfl, hg2⟩
          have B3 := B2.gr hg2
          have c0 := B3.at_ 0 _ rfl
          have c1 := B3.at_ 1 _ rfl
          have c2 := B3.at_ 2 _ rfl
          have c3 := B3.at_ 3 _ rfl
          have c4 := B3.at_ 4 _ rfl
          have c5 := B3.at_ 5 _ rfl
          have c6 := B3.at_ 6 _ rfl
          have c7 := B3.at_ 7 _ rfl
          have c8 := B3.at_ 8 _ rfl
          have c9 := B3.at_ 9 _ rfl
          have c10 := B3.at_ 10 _ rfl
          have c11 := B3.at_ 11 _ rfl
          have clt := B3.lt
          go_wp2_with fail
          refine (H3.out _ ?_).mono ?_
          · exact (by repeat (first | exact Gr.refl _ | refine Gr.alloc ?_ | refine Gr.drew ?_ | refine Gr.trans ?_ (by assumption)))
          rintro e3 w4 ⟨rfl, hg3⟩
          have B4 := B3.gr hg3
          have c0 := B4.at_ 0 _ rfl
          have c1 := B4.at_ 1 _ rfl
          have c2 := B4.at_ 2 _ rfl
          have c3 := B4.at_ 3 _ rfl
          have c4 := B4.at_ 4 _ rfl
          have c5 := B4.at_ 5 _ rfl
          have c6 := B4.at_ 6 _ rfl
          have c7 := B4.at_ 7 _ rfl
          have c8 := B4.at_ 8 _ rfl
          have c9 := B4.at_ 9 _ rfl
          have c10 := B4.at_ 10 _ rfl
          have c11 := B4.at_ 11 _ rfl
          have clt := B4.lt
          go_wp2
          go_ret
          exact ⟨by rw [HE.out]; rfl, (by repeat (first | exact Gr.refl _ | refine Gr.alloc ?_ | refine Gr.drew ?_ | refine Gr.trans ?_ (by assumption)))⟩
end Go.Proofs.YtcmbppjfpdkblaaGreatDoor
/- note: what Ends answers. -/
namespace Go.Proofs.YtcmbppjfpdkblaaGreatDoor
open Go.RowKit

theorem parentOf (r n : Int) (L : List (Int × Int)) (ad : Option Addr) (cap : Nat) (w : World) (hL : HopsAt w ad L) (hc : L.length ≤ cap) (hm : Idn.mayB r n L = true) (h0 : 0 < L.length) :
    Calls Tryz.prog 25 #[.agg #[.int .i64 r, .int .i64 n, .slice ad L.length cap]] w fun e w' => ∃ ad2 cap2 s, e = .returned (.tuple #[.agg #[.int .i64 r, .int .i64 n, .slice ad2 L.dropLast.length cap2], .int .i64 s, .bool true]) ∧ HopsAt w' ad2 L.dropLast ∧ Gr w w' := by
  have hne : L ≠ [] := List.length_pos_iff.1 h0
  obtain ⟨b, off, rfl, _, _⟩ := hL 0 h0
  obtain ⟨⟨s, o⟩, hlast⟩ : ∃ x, L.getLast hne = x := ⟨_, rfl⟩
  have e : L = L.dropLast ++ [(s, o)] := by rw [← hlast]; exact (List.dropLast_concat_getLast hne).symm
  have hl : L.length = L.dropLast.length + 1 := by rw [List.length_dropLast]; omega
  generalize L.dropLast = M at *
  subst e
  have h4 := may_len hm
  rw [hl]
  refine (parent_yes r n s o M b off cap w hL (by omega) hm (by omega)).mono ?_
  rintro e w' ⟨ad2, cap2, rfl, _, h1, h2⟩
  exact ⟨ad2, cap2, s, rfl, h1, h2⟩
theorem may_drop {r n : Int} {L : List (Int × Int)} (hm : Idn.mayB r n L = true) (h0 : 0 < L.length) : Idn.mayB r n L.dropLast = true := by
  have hne : L ≠ [] := List.length_pos_iff.1 h0
  obtain ⟨⟨s, o⟩, hlast⟩ : ∃ x, L.getLast hne = x := ⟨_, rfl⟩
  have e : L = L.dropLast ++ [(s, o)] := by rw [← hlast]; exact (List.dropLast_concat_getLast hne).symm
  rw [e] at hm
  exact (Idn.may_snoc hm).1
theorem org_up {r n : Int} {L : List (Int × Int)} (hm : Idn.mayB r n L = true) : orgE r n L = (Idn.path r L).getLastD (-1) := by
  unfold orgE pathE; rw [if_pos hm]

set_option maxHeartbeats 4000000 in
set_option maxRecDepth 100000 in
theorem nEnds_any (k r n : Int) (L : List (Int × Int)) (d : ByteArray) (y : Int) (ad : Option Addr) (cap : Nat) (w : World) (hL : HopsAt w ad L) (hn : L.length ≤ 9223372036854775807) (hd : d.size ≤ 9223372036854775807) (hc : L.length ≤ cap) :
    Calls Tryz.prog 10 #[.agg #[.int .i64 k, .int .i64 r, .int .i64 n, .slice ad L.length cap, .string d, .int .i64 y]] w fun e w' => e = .returned (.tuple #[.int .i64 (Nt.ends1 (⟨k, r, n, L, d, y⟩ : Nt)), .int .i64 (Nt.ends2 (⟨k, r, n, L, d, y⟩ : Nt))]) ∧ Gr w w' := by
  have HC : Hid (∀ w', Gr w w' → Calls Tryz.prog 14 #[.agg #[.int .i64 k, .int .i64 r, .int .i64 n, .slice ad L.length cap, .string d, .int .i64 y]] w' fun e w2 => e = .returned (.int .i64 (Nt.ckE (⟨k, r, n, L, d, y⟩ : Nt))) ∧ Gr w' w2) := fun w' g => nCheck_any k r n L d y ad cap w' (hL.gr g) hn hd
  have HE1 : Hid (Nt.ends1 (⟨k, r, n, L, d, y⟩ : Nt) = if Nt.ntB (⟨k, r, n, L, d, y⟩ : Nt) = true then (if k ≤ 4 then Nt.upO (⟨k, r, n, L, d, y⟩ : Nt) else Nt.dnO (⟨k, r, n, L, d, y⟩ : Nt)) else -1) := rfl
  have HE2 : Hid (Nt.ends2 (⟨k, r, n, L, d, y⟩ : Nt) = if Nt.ntB (⟨k, r, n, L, d, y⟩ : Nt) = true then (if k ≤ 4 then Nt.dnO (⟨k, r, n, L, d, y⟩ : Nt) else Nt.upO (⟨k, r, n, L, d, y⟩ : Nt)) else -1) := rfl
  generalize Nt.ends1 (⟨k, r, n, L, d, y⟩ : Nt) = E1 at *
  generalize Nt.ends2 (⟨k, r, n, L, d, y⟩ : Nt) = E2 at *
  unfold Nt.ckE at HC
  by_cases hm : Nt.ntB (⟨k, r, n, L, d, y⟩ : Nt) = true
  · rw [if_pos hm] at HC HE1 HE2
    obtain ⟨hk, hi, h0, _, _⟩ := Nt.may_note hm
    simp only at hk hi h0
    have hdrop := may_drop hi h0
    have HP : Hid (∀ w', Gr w w' → Calls Tryz.prog 25 #[.agg #[.int .i64 r, .int .i64 n, .slice ad L.length cap]] w' fun e w2 => ∃ ad2 cap2 s, e = .returned (.tuple #[.agg #[.int .i64 r, .int .i64 n, .slice ad2 L.dropLast.length cap2], .int .i64 s, .bool true]) ∧ HopsAt w2 ad2 L.dropLast ∧ Gr w' w2) := fun w' g => parentOf r n L ad cap w' (hL.gr g) hc hi h0
    have HO : Hid (∀ w', Gr w w' → Calls Tryz.prog 24 #[.agg #[.int .i64 r, .int .i64 n, .slice ad L.length cap]] w' fun e w2 => e = .returned (.int .i64 (Nt.dnO (⟨k, r, n, L, d, y⟩ : Nt))) ∧ Gr w' w2) := fun w' g => by
      have := org_any r n L ad cap w' (hL.gr g) hn
      rw [org_up hi] at this
      exact this
    have HU : Hid (∀ (w' : World) (ad2 : Option Addr) (cap2 : Nat), HopsAt w' ad2 L.dropLast → Calls Tryz.prog 24 #[.agg #[.int .i64 r, .int .i64 n, .slice ad2 L.dropLast.length cap2]] w' fun e w2 => e = .returned (.int .i64 (Nt.upO (⟨k, r, n, L, d, y⟩ : Nt))) ∧ Gr w' w2) := fun w' ad2 cap2 h => by
      have := org_any r n L.dropLast ad2 cap2 w' h (by rw [List.length_dropLast]; omega)
      rw [org_up hdrop] at this
      exact this
    generalize Nt.upO (⟨k, r, n, L, d, y⟩ : Nt) = U at *
    generalize Nt.dnO (⟨k, r, n, L, d, y⟩ : Nt) = V at *
    generalize L.dropLast = M at *
    clear hL hm hi h0 hdrop hn hd hc
    go_enter Tryz.func10, Tryz.ntmps10
    go_wp2_with fail
    refine (HC.out _ (by repeat (first | exact Gr.refl _ | refine Gr.alloc ?_ | refine Gr.drew ?_ | refine Gr.trans ?_ (by assumption)))).mono ?_
    rintro e1 w1 ⟨rfl, hg1⟩
    have B1 := (Cs.new w [.int .i64 k, .int .i64 r, .int .i64 n, .slice ad L.length cap, .string d, .int .i64 y] 26 _ rfl).gr hg1
    have c0 := B1.at_ 0 _ rfl
    have c1 := B1.at_ 1 _ rfl
    have c2 := B1.at_ 2 _ rfl
    have c3 := B1.at_ 3 _ rfl
    have clt := B1.lt
    go_wp2_with fail
    refine (HP.out _ ?_).mono ?_
    · exact (by repeat (first | exact Gr.refl _ | refine Gr.alloc ?_ | refine Gr.drew ?_ | refine Gr.trans ?_ (by assumption)))
    rintro e2 w2 ⟨ad2, cap2, s, rfl, hia, hg2⟩
    have B2 := B1.gr hg2
    have HI : Hid (HopsAt w2 ad2 M) := hia
    have hgw : Gr w w2 := (by repeat (first | exact Gr.refl _ | refine Gr.alloc ?_ | refine Gr.drew ?_ | refine Gr.trans ?_ (by assumption)))
    have p0 := B2.at_ 0 _ rfl
    have p1 := B2.at_ 1 _ rfl
    have p2 := B2.at_ 2 _ rfl
    have p3 := B2.at_ 3 _ rfl
    have plt := B2.lt
    clear c0 c1 c2 c3 clt hg1 hg2 hia B1
    have D2 := Cs.new w2 [.int .i64 r, .int .i64 n, .slice ad2 M.length cap2] 24 _ rfl
    have q0 := D2.at_ 0 _ rfl
    have q1 := D2.at_ 1 _ rfl
    have q2 := D2.at_ 2 _ rfl
    have qlt := D2.lt
    have r1 := B2.alloc (o := .cells #[.int .i64 r, .int .i64 n, .slice ad2 M.length cap2] 24) |>.at_ 1 _ rfl
    have r2 := B2.alloc (o := .cells #[.int .i64 r, .int .i64 n, .slice ad2 M.length cap2] 24) |>.at_ 2 _ rfl
    have r3 := B2.alloc (o := .cells #[.int .i64 r, .int .i64 n, .slice ad2 M.length cap2] 24) |>.at_ 3 _ rfl
    have r0 := B2.alloc (o := .cells #[.int .i64 r, .int .i64 n, .slice ad2 M.length cap2] 24) |>.at_ 0 _ rfl
    go_wp2
    have hgx : Gr w (w2.alloc (.cells #[.int .i64 r, .int .i64 n, .slice ad2 M.length cap2] 24)) := hgw.alloc
    have HI2 : Hid (HopsAt (w2.alloc (.cells #[.int .i64 r, .int .i64 n, .slice ad2 M.length cap2] 24)) ad2 M) := HI.out.alloc
    generalize w2.alloc (.cells #[.int .i64 r, .int .i64 n, .slice ad2 M.length cap2] 24) = w3 at *
    clear p0 p1 p2 p3 HI D2 B2
    go_region_held3 (fun w' => Gr w3 w' ∧ w'.cell? ⟨w.heap.size, 0, none⟩ = some (.int .i64 k) ∧ w'.cell? ⟨w.heap.size, 1, none⟩ = some (.int .i64 r) ∧ w'.cell? ⟨w.heap.size, 2, none⟩ = some (.int .i64 n) ∧ w'.cell? ⟨w.heap.size, 3, none⟩ = some (.slice ad L.length cap) ∧ w'.cell? ⟨w2.heap.size, 0, none⟩ = some (.int .i64 r) ∧ w'.cell? ⟨w2.heap.size, 1, none⟩ = some (.int .i64 n) ∧ w'.cell? ⟨w2.heap.size, 2, none⟩ = some (.slice ad2 M.length cap2))
      ((go_split_ands; exact ⟨(by repeat (first | exact Gr.refl _ | refine Gr.alloc ?_ | refine Gr.drew ?_ | refine Gr.trans ?_ (by assumption))), Gr.keep (W := w3) (by repeat (first | exact Gr.refl _ | refine Gr.alloc ?_ | refine Gr.drew ?_ | refine Gr.trans ?_ (by assumption))) r0, Gr.keep (W := w3) (by repeat (first | exact Gr.refl _ | refine Gr.alloc ?_ | refine Gr.drew ?_ | refine Gr.trans ?_ (by assumption))) r1, Gr.keep (W := w3) (by repeat (first | exact Gr.refl _ | refine Gr.alloc ?_ | refine Gr.drew ?_ | refine Gr.trans ?_ (by assumption))) r2, Gr.keep (W := w3) (by repeat (first | exact Gr.refl _ | refine Gr.alloc ?_ | refine Gr.drew ?_ | refine Gr.trans ?_ (by assumption))) r3, Gr.keep (W := w3) (by repeat (first | exact Gr.refl _ | refine Gr.alloc ?_ | refine Gr.drew ?_ | refine Gr.trans ?_ (by assumption))) q0, Gr.keep (W := w3) (by repeat (first | exact Gr.refl _ | refine Gr.alloc ?_ | refine Gr.drew ?_ | refine Gr.trans ?_ (by assumption))) q1, Gr.keep (W := w3) (by repeat (first | exact Gr.refl _ | refine Gr.alloc ?_ | refine Gr.drew ?_ | refine Gr.trans ?_ (by assumption))) q2⟩))
      ((first | (go_at_call_of 24 (Value.agg #[.int .i64 r, .int .i64 n, .slice ad2 M.length cap2]); refine (HU.out _ ad2 cap2 ?_).mono ?_; (go_split_ands; exact HI2.out.gr (by repeat (first | exact Gr.refl _ | refine Gr.alloc ?_ | refine Gr.drew ?_ | refine Gr.trans ?_ (by assumption)))); rintro e w4 ⟨rfl, hg4⟩; go_split_ands; have s0 : w4.cell? ⟨w.heap.size, 0, none⟩ = some (.int .i64 k) := (Gr.keep (W := w3) (by repeat (first | exact Gr.refl _ | refine Gr.alloc ?_ | refine Gr.drew ?_ | refine Gr.trans ?_ (by assumption))) r0)) | (go_at_call 24; refine (HO.out _ ?_).mono ?_; (go_split_ands; exact (by repeat (first | exact Gr.refl _ | refine Gr.alloc ?_ | refine Gr.drew ?_ | refine Gr.trans ?_ (by assumption)))); rintro e w5 ⟨rfl, hg5⟩; go_split_ands; have t0 : w5.cell? ⟨w.heap.size, 0, none⟩ = some (.int .i64 k) := (Gr.keep (W := w3) (by repeat (first | exact Gr.refl _ | refine Gr.alloc ?_ | refine Gr.drew ?_ | refine Gr.trans ?_ (by assumption))) r0))))
    all_goals
      by_cases hk4 : k ≤ 4
      · rw [if_pos hk4] at HE1 HE2
        go_wp2
        go_ret2
        exact ⟨by rw [HE1.out, HE2.out]; rfl, (by repeat (first | exact Gr.refl _ | refine Gr.alloc ?_ | refine Gr.drew ?_ | refine Gr.trans ?_ (by assumption)))⟩
      · rw [if_neg hk4] at HE1 HE2
        go_wp2
        go_ret2
        exact ⟨by rw [HE1.out, HE2.out]; rfl, (by repeat (first | exact Gr.refl _ | refine Gr.alloc ?_ | refine Gr.drew ?_ | refine Gr.trans ?_ (by assumption)))⟩
  · rw [if_neg hm] at HC HE1 HE2
    clear hL hm
    go_enter Tryz.func10, Tryz.ntmps10
    go_wp2_with fail
    refine (HC.out _ (by repeat (first | exact Gr.refl _ | refine Gr.alloc ?_ | refine Gr.drew ?_ | refine Gr.trans ?_ (by assumption)))).mono ?_
    rintro e1 w1 ⟨rfl, hg1⟩
    go_wp2
    go_ret2
    exact ⟨by rw [HE1.out, HE2.out]; rfl, (by repeat (first | exact Gr.refl _ | refine Gr.alloc ?_ | refine Gr.drew ?_ | refine Gr.trans ?_ (by assumption)))⟩
end Go.Proofs.YtcmbppjfpdkblaaGreatDoor
