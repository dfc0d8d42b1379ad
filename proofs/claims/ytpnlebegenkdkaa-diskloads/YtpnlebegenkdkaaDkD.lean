
/- disk: Sync, Cut, Remove, Arm, Crash, Boot, Dead. -/
import Derived.Test.YtpnlebegenkdkaaDkC
namespace Go.Proofs.Ytpnlebegenkdkaa
open Go.RowKit Go.Maps
open Dk (Fl Fo St Ok Up zf emp used cutF fallA kf)
variable {w w' : World} {b m : Nat} {A : Nat → Int} {s : St}

theorem has_true {L : List Fl} {n : Int} (h : ¬ Dk.has L n = false) : Dk.has L n = true := by cases e : Dk.has L n with | true => rfl | false => exact absurd e h
theorem size_in (h : Ok s) {g : Fl} (hg : g ∈ s.L) : g.d.size ≤ 200000 := by
  have h1 := Dk.used_del h.up (Dk.has_of hg)
  rw [Dk.get_of h.up hg] at h1
  have := h.fits; have := h.r1; omega
theorem stp_dead {q n k : Int} (hd : s.dead = true) : Dk.stpE s q n k = 150 ∧ Dk.stpS s q n k = s := by simp [Dk.stpE, Dk.stpS, hd]
theorem stp_no {q n k : Int} (hd : s.dead = false) (hh : Dk.has s.L n = false) : Dk.stpE s q n k = 152 ∧ Dk.stpS s q n k = s := by simp [Dk.stpE, Dk.stpS, hd, hh]
theorem stp_bad {n k : Int} (hd : s.dead = false) (hh : Dk.has s.L n = true) (hk : k < 1 ∨ ((Dk.get s.L n).d.size : Int) < k) : Dk.stpE s 2 n k = 2 ∧ Dk.stpS s 2 n k = s := by simp [Dk.stpE, Dk.stpS, hd, hh, hk]
theorem stp_go {q n k : Int} (hd : s.dead = false) (hh : Dk.has s.L n = true) (hk : ¬ (q = 2 ∧ (k < 1 ∨ ((Dk.get s.L n).d.size : Int) < k))) : Dk.stpE s q n k = Dk.cntE s ∧ Dk.stpS s q n k = Dk.chS s (Dk.fst (Dk.get s.L n) (Dk.siz q (Dk.get s.L n) k)) := by
  unfold Dk.stpE Dk.stpS
  rw [hd, hh, if_neg hk, if_neg hk]
  simp
theorem DAt.setArm (h : DAt w b m A s) (n : Int) (l : List Int) (hk : Ok { s with left := n, keep := l }) : DAt (setK (w.setCell ⟨b, 3, none⟩ (.int .i64 n)) b (kf l)) b m (kf l) { s with left := n, keep := l } ∧ Td w (setK (w.setCell ⟨b, 3, none⟩ (.int .i64 n)) b (kf l)) b m := by
  have hne := h.ne
  have h0 := h.mp
  have h1 := h.rm
  have h2 := h.dd
  have h3 := h.lf
  have k0 := h.kp 0 (by omega)
  have k1 := h.kp 1 (by omega)
  have k2 := h.kp 2 (by omega)
  have k3 := h.kp 3 (by omega)
  have k4 := h.kp 4 (by omega)
  have k5 := h.kp 5 (by omega)
  have k6 := h.kp 6 (by omega)
  have k7 := h.kp 7 (by omega)
  simp only [Nat.reduceAdd, Nat.add_zero] at k0 k1 k2 k3 k4 k5 k6 k7
  refine ⟨⟨by simp [setK, go_sem, *], by simp [setK, go_sem, *], by simp [setK, go_sem, *], by simp [setK, go_sem, *], ?_, ?_, ?_, fun _ _ _ => rfl, hk⟩, ?_⟩
  · intro i hi
    match i, hi with
    | 0, _ => simp [setK, go_sem, *]
    | 1, _ => simp [setK, go_sem, *]
    | 2, _ => simp [setK, go_sem, *]
    | 3, _ => simp [setK, go_sem, *]
    | 4, _ => simp [setK, go_sem, *]
    | 5, _ => simp [setK, go_sem, *]
    | 6, _ => simp [setK, go_sem, *]
    | 7, _ => simp [setK, go_sem, *]
  · intro o ho
    simp only [setK, World.frozen?_setCell]
    exact h.fz o ho
  · exact ((((((((h.fl.set hne _ _).set hne _ _).set hne _ _).set hne _ _).set hne _ _).set hne _ _).set hne _ _).set hne _ _).set hne _ _
  · exact ((((((((Td.set _ _ _ _ _).trans (Td.set _ _ _ _ _)).trans (Td.set _ _ _ _ _)).trans (Td.set _ _ _ _ _)).trans (Td.set _ _ _ _ _)).trans (Td.set _ _ _ _ _)).trans (Td.set _ _ _ _ _)).trans (Td.set _ _ _ _ _)).trans (Td.set _ _ _ _ _)
set_option maxHeartbeats 4000000 in
set_option maxRecDepth 100000 in
theorem sync_any (h : DAt w b m A s) {n : Int} (h0 : -9223372036854775808 ≤ n) (h1 : n ≤ 9223372036854775807) :
    Calls Try.prog 19 #[ptr b, .int .i64 n] w fun e w' => e = .returned (.int .i64 (Dk.stpE s 1 n 0)) ∧ FaR w w' b m (Dk.stpS s 1 n 0) := by
  have HF := Lib.hid (find_any h h0 h1)
  have hok := h.ok
  unfold fndE fndF at HF
  cases hd : s.dead with
  | true =>
    rw [hd] at HF
    rw [(stp_dead hd).1, (stp_dead hd).2]
    have HD := Lib.hid h
    clear h hok
    go_enter Try.func19, Try.ntmps19
    go_wp2_with fail
    refine HF.out.mono ?_
    rintro e w1 ⟨rfl, hg⟩
    have HG := Lib.hid hg
    clear hg HF
    go_wp2
    go_ret
    exact ⟨rfl, (FaR.refl HD.out).up HG.out.alloc⟩
  | false =>
    rw [hd] at HF
    cases hh : Dk.has s.L n with
    | false =>
      rw [hh] at HF
      rw [Dk.get_not hh] at HF
      rw [(stp_no hd hh).1, (stp_no hd hh).2]
      have HD := Lib.hid h
      clear h hok
      go_enter Try.func19, Try.ntmps19
      go_wp2_with fail
      refine HF.out.mono ?_
      rintro e w1 ⟨rfl, hg⟩
      have HG := Lib.hid hg
      clear hg HF
      go_wp2
      go_ret
      exact ⟨rfl, (FaR.refl HD.out).up HG.out.alloc⟩
    | true =>
      rw [hh] at HF
      obtain ⟨hm1, hm2⟩ := Dk.get_mem hh
      have hsz := size_in hok hm1
      have hk2 : ¬ ((1 : Int) = 2 ∧ ((0 : Int) < 1 ∨ ((Dk.get s.L n).d.size : Int) < 0)) := by omega
      have es : Dk.siz 1 (Dk.get s.L n) 0 = ((Dk.get s.L n).d.size : Int) := by simp [Dk.siz]
      rw [(stp_go hd hh hk2).1, (stp_go hd hh hk2).2, es]
      have HFs : Hid (∀ w', Calls Try.prog 48 #[flV (Dk.get s.L n), .int .i64 ((Dk.get s.L n).d.size : Int)] w' fun e w2 => e = .returned (flV (Dk.fst (Dk.get s.L n) ((Dk.get s.L n).d.size : Int))) ∧ Gr w' w2) := fun w' => first_any _ w' (by omega) (by omega) (by omega)
      have HCh : Hid (∀ w', Gr w w' → Calls Try.prog 47 #[ptr b, flV (Dk.fst (Dk.get s.L n) ((Dk.get s.L n).d.size : Int))] w' fun e w2 => e = .returned (.int .i64 (Dk.cntE s)) ∧ FaR w w2 b m (Dk.chS s (Dk.fst (Dk.get s.L n) ((Dk.get s.L n).d.size : Int)))) := by
        intro w' g
        refine (change_any (h.gr g) hm1 (by omega) (by omega)).mono ?_
        rintro e w2 ⟨rfl, hr⟩
        exact ⟨rfl, FaR.gr g hr⟩
      clear h hok hm1 hm2 hk2 es
      generalize Dk.chS s (Dk.fst (Dk.get s.L n) ((Dk.get s.L n).d.size : Int)) = cs at *
      generalize Dk.fst (Dk.get s.L n) ((Dk.get s.L n).d.size : Int) = ff at *
      generalize Dk.get s.L n = f at *
      obtain ⟨fn, fd, fy⟩ := f
      obtain ⟨gn, gd, gy⟩ := ff
      simp only at *
      go_enter Try.func19, Try.ntmps19
      go_wp2_with fail
      refine HF.out.mono ?_
      rintro e w1 ⟨rfl, hg⟩
      have HG := Lib.hid hg
      clear hg HF
      go_wp2_with fail
      refine (HFs.out _).mono ?_
      rintro e w2 ⟨rfl, hg2⟩
      have HG2 := Lib.hid (HG.out.alloc.trans hg2)
      clear hg2 HFs
      go_wp2_with fail
      refine (HCh.out _ HG2.out).mono ?_
      rintro e w3 ⟨rfl, hr⟩
      have HR := Lib.hid hr
      clear hr
      go_wp2
      go_ret
      exact ⟨rfl, HR.out⟩
set_option maxHeartbeats 4000000 in
set_option maxRecDepth 100000 in
theorem cut_any (h : DAt w b m A s) {n : Int} (h0 : -9223372036854775808 ≤ n) (h1 : n ≤ 9223372036854775807) (k : Int) :
    Calls Try.prog 20 #[ptr b, .int .i64 n, .int .i64 k] w fun e w' => e = .returned (.int .i64 (Dk.stpE s 2 n k)) ∧ FaR w w' b m (Dk.stpS s 2 n k) := by
  have HF := Lib.hid (find_any h h0 h1)
  have hok := h.ok
  unfold fndE fndF at HF
  cases hd : s.dead with
  | true =>
    rw [hd] at HF
    rw [(stp_dead hd).1, (stp_dead hd).2]
    have HD := Lib.hid h
    clear h hok
    go_enter Try.func20, Try.ntmps20
    go_wp2_with fail
    refine HF.out.mono ?_
    rintro e w1 ⟨rfl, hg⟩
    have HG := Lib.hid hg
    clear hg HF
    go_wp2
    go_ret
    exact ⟨rfl, (FaR.refl HD.out).up HG.out.alloc⟩
  | false =>
    rw [hd] at HF
    cases hh : Dk.has s.L n with
    | false =>
      rw [hh] at HF
      rw [Dk.get_not hh] at HF
      rw [(stp_no hd hh).1, (stp_no hd hh).2]
      have HD := Lib.hid h
      clear h hok
      go_enter Try.func20, Try.ntmps20
      go_wp2_with fail
      refine HF.out.mono ?_
      rintro e w1 ⟨rfl, hg⟩
      have HG := Lib.hid hg
      clear hg HF
      go_wp2
      go_ret
      exact ⟨rfl, (FaR.refl HD.out).up HG.out.alloc⟩
    | true =>
      rw [hh] at HF
      obtain ⟨hm1, hm2⟩ := Dk.get_mem hh
      have hsz := size_in hok hm1
      by_cases hk : k < 1 ∨ ((Dk.get s.L n).d.size : Int) < k
      · have HW : Hid (∀ w', Calls Try.prog 45 #[.int .i64 k, .int .i64 1, .int .i64 ((Dk.get s.L n).d.size : Int)] w' fun e w2 => e = .returned (.bool false) ∧ w2 = w') := fun w' => by have := within_any k 1 ((Dk.get s.L n).d.size : Int) w'; rw [decide_eq_false (by omega)] at this; exact this
        have HD := Lib.hid h
        rw [(stp_bad hd hh hk).1, (stp_bad hd hh hk).2]
        clear h hok hm1 hm2 hk
        generalize Dk.get s.L n = f at *
        obtain ⟨fn, fd, fy⟩ := f
        simp only at *
        go_enter Try.func20, Try.ntmps20
        go_wp2_with fail
        refine HF.out.mono ?_
        rintro e w1 ⟨rfl, hg⟩
        have HG := Lib.hid hg
        clear hg HF
        go_wp2_with (go_at_call 45; refine (HW.out _).mono ?_; rintro e w' ⟨rfl, rfl⟩)
        go_ret
        exact ⟨rfl, (FaR.refl HD.out).up HG.out.alloc⟩
      · have HW : Hid (∀ w', Calls Try.prog 45 #[.int .i64 k, .int .i64 1, .int .i64 ((Dk.get s.L n).d.size : Int)] w' fun e w2 => e = .returned (.bool true) ∧ w2 = w') := fun w' => by have := within_any k 1 ((Dk.get s.L n).d.size : Int) w'; rw [decide_eq_true (by omega)] at this; exact this
        have hk2 : ¬ ((2 : Int) = 2 ∧ ((k : Int) < 1 ∨ ((Dk.get s.L n).d.size : Int) < k)) := by exact fun e => hk e.2
        have es : Dk.siz 2 (Dk.get s.L n) k = k := by simp [Dk.siz]
        rw [(stp_go hd hh hk2).1, (stp_go hd hh hk2).2, es]
        have HFs : Hid (∀ w', Calls Try.prog 48 #[flV (Dk.get s.L n), .int .i64 k] w' fun e w2 => e = .returned (flV (Dk.fst (Dk.get s.L n) k)) ∧ Gr w' w2) := fun w' => first_any _ w' (by omega) (by omega) (by omega)
        have HCh : Hid (∀ w', Gr w w' → Calls Try.prog 47 #[ptr b, flV (Dk.fst (Dk.get s.L n) k)] w' fun e w2 => e = .returned (.int .i64 (Dk.cntE s)) ∧ FaR w w2 b m (Dk.chS s (Dk.fst (Dk.get s.L n) k))) := by
          intro w' g
          refine (change_any (h.gr g) hm1 (by omega) (by omega)).mono ?_
          rintro e w2 ⟨rfl, hr⟩
          exact ⟨rfl, FaR.gr g hr⟩
        clear h hok hm1 hm2 hk2 es
        generalize Dk.chS s (Dk.fst (Dk.get s.L n) k) = cs at *
        generalize Dk.fst (Dk.get s.L n) k = ff at *
        generalize Dk.get s.L n = f at *
        obtain ⟨fn, fd, fy⟩ := f
        obtain ⟨gn, gd, gy⟩ := ff
        simp only at *
        go_enter Try.func20, Try.ntmps20
        go_wp2_with fail
        refine HF.out.mono ?_
        rintro e w1 ⟨rfl, hg⟩
        have HG := Lib.hid hg
        clear hg HF
        go_wp2_with (go_at_call 45; refine (HW.out _).mono ?_; rintro e w' ⟨rfl, hw⟩; obtain rfl := hw.symm; clear hw)
        refine (HFs.out _).mono ?_
        rintro e w2 ⟨rfl, hg2⟩
        have HG2 := Lib.hid (HG.out.alloc.trans hg2)
        clear hg2 HFs
        go_wp2_with fail
        refine (HCh.out _ HG2.out).mono ?_
        rintro e w3 ⟨rfl, hr⟩
        have HR := Lib.hid hr
        clear hr
        go_wp2
        go_ret
        exact ⟨rfl, HR.out⟩
set_option maxHeartbeats 4000000 in
set_option maxRecDepth 100000 in
theorem remove_any (h : DAt w b m A s) {n : Int} (h0 : -9223372036854775808 ≤ n) (h1 : n ≤ 9223372036854775807) :
    Calls Try.prog 21 #[ptr b, .int .i64 n] w fun e w' => e = .returned (.int .i64 (Dk.stpE s 3 n 0)) ∧ FaR w w' b m (Dk.stpS s 3 n 0) := by
  have HF := Lib.hid (find_any h h0 h1)
  have hok := h.ok
  unfold fndE fndF at HF
  cases hd : s.dead with
  | true =>
    rw [hd] at HF
    rw [(stp_dead hd).1, (stp_dead hd).2]
    have HD := Lib.hid h
    clear h hok
    go_enter Try.func21, Try.ntmps21
    go_wp2_with fail
    refine HF.out.mono ?_
    rintro e w1 ⟨rfl, hg⟩
    have HG := Lib.hid hg
    clear hg HF
    go_wp2
    go_ret
    exact ⟨rfl, (FaR.refl HD.out).up HG.out.alloc⟩
  | false =>
    rw [hd] at HF
    cases hh : Dk.has s.L n with
    | false =>
      rw [hh] at HF
      rw [Dk.get_not hh] at HF
      rw [(stp_no hd hh).1, (stp_no hd hh).2]
      have HD := Lib.hid h
      clear h hok
      go_enter Try.func21, Try.ntmps21
      go_wp2_with fail
      refine HF.out.mono ?_
      rintro e w1 ⟨rfl, hg⟩
      have HG := Lib.hid hg
      clear hg HF
      go_wp2
      go_ret
      exact ⟨rfl, (FaR.refl HD.out).up HG.out.alloc⟩
    | true =>
      rw [hh] at HF
      obtain ⟨hm1, hm2⟩ := Dk.get_mem hh
      have hsz := size_in hok hm1
      have hk2 : ¬ ((3 : Int) = 2 ∧ ((0 : Int) < 1 ∨ ((Dk.get s.L n).d.size : Int) < 0)) := by omega
      have es : Dk.siz 3 (Dk.get s.L n) 0 = 0 := by simp [Dk.siz]
      rw [(stp_go hd hh hk2).1, (stp_go hd hh hk2).2, es]
      have HFs : Hid (∀ w', Calls Try.prog 48 #[flV (Dk.get s.L n), .int .i64 0] w' fun e w2 => e = .returned (flV (Dk.fst (Dk.get s.L n) 0)) ∧ Gr w' w2) := fun w' => first_any _ w' (by omega) (by omega) (by omega)
      have HCh : Hid (∀ w', Gr w w' → Calls Try.prog 47 #[ptr b, flV (Dk.fst (Dk.get s.L n) 0)] w' fun e w2 => e = .returned (.int .i64 (Dk.cntE s)) ∧ FaR w w2 b m (Dk.chS s (Dk.fst (Dk.get s.L n) 0))) := by
        intro w' g
        refine (change_any (h.gr g) hm1 (by omega) (by omega)).mono ?_
        rintro e w2 ⟨rfl, hr⟩
        exact ⟨rfl, FaR.gr g hr⟩
      clear h hok hm1 hm2 hk2 es
      generalize Dk.chS s (Dk.fst (Dk.get s.L n) 0) = cs at *
      generalize Dk.fst (Dk.get s.L n) 0 = ff at *
      generalize Dk.get s.L n = f at *
      obtain ⟨fn, fd, fy⟩ := f
      obtain ⟨gn, gd, gy⟩ := ff
      simp only at *
      go_enter Try.func21, Try.ntmps21
      go_wp2_with fail
      refine HF.out.mono ?_
      rintro e w1 ⟨rfl, hg⟩
      have HG := Lib.hid hg
      clear hg HF
      go_wp2_with fail
      refine (HFs.out _).mono ?_
      rintro e w2 ⟨rfl, hg2⟩
      have HG2 := Lib.hid (HG.out.alloc.trans hg2)
      clear hg2 HFs
      go_wp2_with fail
      refine (HCh.out _ HG2.out).mono ?_
      rintro e w3 ⟨rfl, hr⟩
      have HR := Lib.hid hr
      clear hr
      go_wp2
      go_ret
      exact ⟨rfl, HR.out⟩
set_option maxHeartbeats 4000000 in
set_option maxRecDepth 100000 in
theorem arm_any (h : DAt w b m A s) {n : Int} (h1 : n ≤ 9223372036854775807) {ad : Option Addr} {cap : Nat} {l : List Int} (hl : KAt w ad cap l) :
    Calls Try.prog 22 #[ptr b, .int .i64 n, .slice ad l.length cap] w fun e w' => e = .returned (.int .i64 (Dk.armE s n)) ∧ FaR w w' b m (Dk.armS s n l) := by
  have HP := Lib.hid (power_any h)
  unfold Dk.armE Dk.armS
  unfold Dk.craE at HP
  cases hd : s.dead with
  | true =>
    rw [hd] at HP
    have HD := Lib.hid h
    clear h hl
    go_enter Try.func22, Try.ntmps22
    go_wp2_with (go_at_call 44; refine HP.out.mono ?_; rintro e w' ⟨rfl, hw⟩; obtain rfl := hw.symm; clear hw)
    go_ret
    exact ⟨rfl, FaR.refl HD.out⟩
  | false =>
    rw [hd] at HP
    by_cases h2 : n < 0
    · have HD := Lib.hid h
      simp only [if_pos h2]
      clear h hl
      go_enter Try.func22, Try.ntmps22
      go_wp2_with (go_at_call 44; refine HP.out.mono ?_; rintro e w' ⟨rfl, hw⟩; obtain rfl := hw.symm; clear hw)
      go_ret
      exact ⟨rfl, FaR.refl HD.out⟩
    · simp only [if_neg h2]
      have HPl := Lib.hid (places_any hl)
      have HD := Lib.hid h
      have HO : Hid (Ok { s with left := n, keep := l }) := ⟨h.ok.up, h.ok.fo, h.ok.len, h.ok.fits, h.ok.r1, by simp only; omega, h1⟩
      have h2b : decide (n < 0) = false := decide_eq_false h2
      clear h hl
      go_enter Try.func22, Try.ntmps22
      go_wp2_with (go_at_call 44; refine HP.out.mono ?_; rintro e w' ⟨rfl, hw⟩; obtain rfl := hw.symm; clear hw)
      refine HPl.out.mono ?_
      rintro e w1 ⟨rfl, hg⟩
      have hd1 := HD.out.gr hg
      have HR : Hid (FaR w (setK (w1.setCell ⟨b, 3, none⟩ (.int .i64 n)) b (kf l)) b m { s with left := n, keep := l }) := by
        obtain ⟨q1, q2⟩ := hd1.setArm n l HO.out
        exact FaR.mk q1 ((Td.gr hg).trans q2)
      have c3 := hd1.lf
      have k0 := hd1.kp 0 (by omega)
      have k1 := hd1.kp 1 (by omega)
      have k2 := hd1.kp 2 (by omega)
      have k3 := hd1.kp 3 (by omega)
      have k4 := hd1.kp 4 (by omega)
      have k5 := hd1.kp 5 (by omega)
      have k6 := hd1.kp 6 (by omega)
      have k7 := hd1.kp 7 (by omega)
      simp only [Nat.reduceAdd, Nat.add_zero] at k0 k1 k2 k3 k4 k5 k6 k7
      have f3 := hd1.fz 3 (by omega)
      have f4 := hd1.fz 4 (by omega)
      have f5 := hd1.fz 5 (by omega)
      have f6 := hd1.fz 6 (by omega)
      have f7 := hd1.fz 7 (by omega)
      have f8 := hd1.fz 8 (by omega)
      have f9 := hd1.fz 9 (by omega)
      have f10 := hd1.fz 10 (by omega)
      have f11 := hd1.fz 11 (by omega)
      clear hd1 hg HPl
      go_wp2
      go_ret
      exact ⟨rfl, by rw [hd] at HR; exact HR.out⟩
set_option maxHeartbeats 4000000 in
set_option maxRecDepth 100000 in
theorem crash_any (h : DAt w b m A s) {ad : Option Addr} {cap : Nat} {l : List Int} (hl : KAt w ad cap l) :
    Calls Try.prog 23 #[ptr b, .slice ad l.length cap] w fun e w' => e = .returned (.int .i64 (Dk.craE s)) ∧ FaR w w' b m (Dk.craS s l) := by
  have HP := Lib.hid (power_any h)
  unfold Dk.craE at HP ⊢
  unfold Dk.craS
  cases hd : s.dead with
  | true =>
    rw [hd] at HP
    have HD := Lib.hid h
    clear h hl
    go_enter Try.func23, Try.ntmps23
    go_wp2_with (go_at_call 44; refine HP.out.mono ?_; rintro e w' ⟨rfl, hw⟩; obtain rfl := hw.symm; clear hw)
    go_ret
    exact ⟨rfl, FaR.refl HD.out⟩
  | false =>
    rw [hd] at HP
    have HPl := Lib.hid (places_any hl)
    have HF : Hid (∀ w', Gr w w' → Calls Try.prog 50 #[ptr b, kA (kf l)] w' fun e w2 => e = .returned (.tuple #[]) ∧ FaR w w2 b m (Dk.fall s l)) := by
      intro w' g
      refine (fall_any (h.gr g) (kf l) (keep := l) (fun _ _ => rfl)).mono ?_
      rintro e w2 ⟨rfl, hr⟩
      exact ⟨rfl, FaR.gr g hr⟩
    clear h hl
    go_enter Try.func23, Try.ntmps23
    go_wp2_with (go_at_call 44; refine HP.out.mono ?_; rintro e w' ⟨rfl, hw⟩; obtain rfl := hw.symm; clear hw)
    refine HPl.out.mono ?_
    rintro e w1 ⟨rfl, hg⟩
    have HG := Lib.hid hg
    clear hg HPl
    go_wp2_with fail
    refine (HF.out _ HG.out).mono ?_
    rintro e w2 ⟨rfl, hr⟩
    have HR := Lib.hid hr
    clear hr
    go_wp2
    go_ret
    exact ⟨rfl, HR.out⟩
set_option maxHeartbeats 4000000 in
set_option maxRecDepth 100000 in
theorem boot_any (h : DAt w b m A s) : Calls Try.prog 24 #[ptr b] w fun e w' => e = .returned (.int .i64 0) ∧ FaR w w' b m (Dk.booS s) := by
  have hN := isNone_any h
  have HR := Lib.hid (FaR.mk (h.setDead false) (Td.set _ _ _ _ _))
  have c2 := h.dd
  have f2 := h.fz 2 (by omega)
  clear h
  go_enter Try.func24, Try.ntmps24
  go_wp2_with (go_at_call 51; refine hN.mono ?_; rintro e w' ⟨rfl, hw⟩; obtain rfl := hw.symm; clear hw)
  go_ret
  exact ⟨rfl, HR.out⟩
set_option maxHeartbeats 4000000 in
set_option maxRecDepth 100000 in
theorem dead_any (h : DAt w b m A s) : Calls Try.prog 25 #[ptr b] w fun e w' => e = .returned (.bool s.dead) ∧ w' = w := by
  have hN := isNone_any h
  have c2 := h.dd
  clear h
  go_enter Try.func25, Try.ntmps25
  go_wp2_with (go_at_call 51; refine hN.mono ?_; rintro e w' ⟨rfl, hw⟩; obtain rfl := hw.symm; clear hw)
  go_ret
  exact ⟨rfl, rfl⟩
end Go.Proofs.Ytpnlebegenkdkaa
