/- Parts of these proofs, laid together. -/
import Derived.Test.YtojmhhmpmpbpfaaGreatDoorGK
import Derived.Test.YtojmhhmpmpbpfaaGreatDoorGI
import Derived.Test.YtojmhhmpmpbpfaaGreatDoorGA
import Derived.Test.YtojmhhmpmpbpfaaGreatDoorShelf
import Derived.Lib.Strings
import Derived.Deep.QuietTactic
import Derived.BigQuiet
import Derived.Deep.RegionHeld3
namespace Go.Proofs.YtojmhhmpmpbpfaaGreatDoor
open Go.RowKit Go.Maps
open Dk (Fl Fo St Ok Up zf emp used cutF fallA kf)
variable {w w' : World} {b m : Nat} {A : Nat → Int} {s : St}

theorem has_true {L : List Fl} {n : Int} (h : ¬ Dk.has L n = false) : Dk.has L n = true := by cases e : Dk.has L n with | true => rfl | false => exact absurd e h
theorem size_in (h : Ok s) {g : Fl} (hg : g ∈ s.L) : g.d.size ≤ 200000 := by
  have h1 := Dk.used_del h.up (Dk.has_of hg)
  rw [Dk.get_of h.up hg] at h1
  have := h.fits; have := h.r1; omega
theorem stp_dead {q n k : Int} (hd : s.dead = true) : Dk.stpE s q n k = 150 ∧ Dk.stpS s q n k = s := by simp [Dk.stpE, Dk.stpS, hd]
theorem stp_no {q n k : Int} (hd : s.dead = false) (hh : Dk.has s.L n = false) : Dk.stpE s q n k = 152 ∧ Dk.stpS s q n k = s := by simp [Dk.stpE, Dk.stpS, hd, hh]
theorem stp_bad {n k : Int} (hd : s.dead = false) (hh : Dk.has s.L n = true) (hk : k < 1 ∨ ((Dk.get s.L n).d.size : Int) < k) : Dk.stpE s 2 n k = 2 ∧ Dk.stpS s 2 n k = s := by simp [Dk.stpE, Dk.stpS, hd, hh, hk]
theorem stp_go {q n k : Int} (hd : s.dead = false) (hh : Dk.has s.L n = true) (hk : ¬ (q = 2 ∧ (k < 1 ∨ ((Dk.get s.L n).d.size : Int) < k))) : Dk.stpE s q n k = Dk.cntE s ∧ Dk.stpS s q n k = Dk.chS s (Dk.fst (Dk.get s.L n) (Dk.siz q (Dk.get s.L n) k)) := by
  unfold Dk.stpE Dk.stpS
  rw [hd, hh, if_neg hk, if_neg hk]
  simp
theorem DAt.setArm (h : DAt w b m A s) (n : Int) (l : List Int) (hk : Ok { s with left := n, keep := l }) : DAt (setK (w.setCell ⟨b, 3, none⟩ (.int .i64 n)) b (kf l)) b m (kf l) { s with left := n, keep := l } ∧ Td w (setK (w.setCell ⟨b, 3, none⟩ (.int .i64 n)) b (kf l)) b m := by
  have hne := h.ne
  have h0 := h.mp
  have h1 := h.rm
  have h2 := h.dd
  have h3 := h.lf
  have k0 := h.kp 0 (by omega)
  have k1 := h.kp 1 (by omega)
  have k2 := h.kp 2 (by omega)
  have k3 := h.kp 3 (by omega)
  have k4 := h.kp 4 (by omega)
  have k5 := h.kp 5 (by omega)
  have k6 := h.kp 6 (by omega)
  have k7 := h.kp 7 (by omega)
  simp only [Nat.reduceAdd, Nat.add_zero] at k0 k1 k2 k3 k4 k5 k6 k7
  refine ⟨⟨by simp [setK, go_sem, *], by simp [setK, go_sem, *], by simp [setK, go_sem, *], by simp [setK, go_sem, *], ?_, ?_, ?_, fun _ _ _ => rfl, hk⟩, ?_⟩
  · intro i hi
    match i, hi with
    | 0, _ => simp [setK, go_sem, *]
    | 1, _ => simp [setK, go_sem, *]
    | 2, _ => simp [setK, go_sem, *]
    | 3, _ => simp [setK, go_sem, *]
    | 4, _ => simp [setK, go_sem, *]
    | 5, _ => simp [setK, go_sem, *]
    | 6, _ => simp [setK, go_sem, *]
    | 7, _ => simp [setK, go_sem, *]
  · intro o ho
    simp only [setK, World.frozen?_setCell]
    exact h.fz o ho
  · exact ((((((((h.fl.set hne _ _).set hne _ _).set hne _ _).set hne _ _).set hne _ _).set hne _ _).set hne _ _).set hne _ _).set hne _ _
  · exact ((((((((Td.set _ _ _ _ _).trans (Td.set _ _ _ _ _)).trans (Td.set _ _ _ _ _)).trans (Td.set _ _ _ _ _)).trans (Td.set _ _ _ _ _)).trans (Td.set _ _ _ _ _)).trans (Td.set _ _ _ _ _)).trans (Td.set _ _ _ _ _)).trans (Td.set _ _ _ _ _)
set_option maxHeartbeats 4000000 in
set_option maxRecDepth 100000 in
theorem sync_any (h : DAt w b m A s) {n : Int} (h0 : -9223372036854775808 ≤ n) (h1 : n ≤ 9223372036854775807) :
    Calls Tryz.prog 75 #[ptr b, .int .i64 n] w fun e w' => e = .returned (.int .i64 (Dk.stpE s 1 n 0)) ∧ FaR w w' b m (Dk.stpS s 1 n 0) := by
  have HF := Lib.hid (find_any h h0 h1)
  have hok := h.ok
  unfold fndE fndF at HF
  cases hd : s.dead with
  | true =>
    rw [hd] at HF
    rw [(stp_dead hd).1, (stp_dead hd).2]
    have HD := Lib.hid h
    clear h hok
    go_enter Tryz.func75, Tryz.ntmps75
    go_wp2_with fail
    refine HF.out.mono ?_
    rintro e w1 ⟨rfl, hg⟩
    have HG := Lib.hid hg
    clear hg HF
    go_wp2
    go_ret
    exact ⟨rfl, (FaR.refl HD.out).up HG.out.alloc⟩
  | false =>
    rw [hd] at HF
    cases hh : Dk.has s.L n with
    | false =>
      rw [hh] at HF
      rw [Dk.get_not hh] at HF
      rw [(stp_no hd hh).1, (stp_no hd hh).2]
      have HD := Lib.hid h
      clear h hok
      go_enter Tryz.func75, Tryz.ntmps75
      go_wp2_with fail
      refine HF.out.mono ?_
      rintro e w1 ⟨rfl, hg⟩
      have HG := Lib.hid hg
      clear hg HF
      go_wp2
      go_ret
      exact ⟨rfl, (FaR.refl HD.out).up HG.out.alloc⟩
    | true =>
      rw [hh] at HF
      obtain ⟨hm1, hm2⟩ := Dk.get_mem hh
      have hsz := size_in hok hm1
      have hk2 : ¬ ((1 : Int) = 2 ∧ ((0 : Int) < 1 ∨ ((Dk.get s.L n).d.size : Int) < 0)) := by omega
      have es : Dk.siz 1 (Dk.get s.L n) 0 = ((Dk.get s.L n).d.size : Int) := by simp [Dk.siz]
      rw [(stp_go hd hh hk2).1, (stp_go hd hh hk2).2, es]
      have HFs : Hid (∀ w', Calls Tryz.prog 98 #[flV (Dk.get s.L n), .int .i64 ((Dk.get s.L n).d.size : Int)] w' fun e w2 => e = .returned (flV (Dk.fst (Dk.get s.L n) ((Dk.get s.L n).d.size : Int))) ∧ Gr w' w2) := fun w' => first_any _ w' (by omega) (by omega) (by omega)
      have HCh : Hid (∀ w', Gr w w' → Calls Tryz.prog 97 #[ptr b, flV (Dk.fst (Dk.get s.L n) ((Dk.get s.L n).d.size : Int))] w' fun e w2 => e = .returned (.int .i64 (Dk.cntE s)) ∧ FaR w w2 b m (Dk.chS s (Dk.fst (Dk.get s.L n) ((Dk.get s.L n).d.size : Int)))) := by
        intro w' g
        refine (change_any (h.gr g) hm1 (by omega) (by omega)).mono ?_
        rintro e w2 ⟨rfl, hr⟩
        exact ⟨rfl, FaR.gr g hr⟩
      clear h hok hm1 hm2 hk2 es
      generalize Dk.chS s (Dk.fst (Dk.get s.L n) ((Dk.get s.L n).d.size : Int)) = cs at *
      generalize Dk.fst (Dk.get s.L n) ((Dk.get s.L n).d.size : Int) = ff at *
      generalize Dk.get s.L n = f at *
      obtain ⟨fn, fd, fy⟩ := f
      obtain ⟨gn, gd, gy⟩ := ff
      simp only at *
      go_enter Tryz.func75, Tryz.ntmps75
      go_wp2_with fail
      refine HF.out.mono ?_
      rintro e w1 ⟨rfl, hg⟩
      have HG := Lib.hid hg
      clear hg HF
      go_wp2_with fail
      refine (HFs.out _).mono ?_
      rintro e w2 ⟨rfl, hg2⟩
      have HG2 := Lib.hid (HG.out.alloc.trans hg2)
      clear hg2 HFs
      go_wp2_with fail
      refine (HCh.out _ HG2.out).mono ?_
      rintro e w3 ⟨rfl, hr⟩
      have HR := Lib.hid hr
      clear hr
      go_wp2
      go_ret
      exact ⟨rfl, HR.out⟩
set_option maxHeartbeats 4000000 in
set_option maxRecDepth 100000 in
theorem cut_any (h : DAt w b m A s) {n : Int} (h0 : -9223372036854775808 ≤ n) (h1 : n ≤ 9223372036854775807) (k : Int) :
    Calls Tryz.prog 83 #[ptr b, .int .i64 n, .int .i64 k] w fun e w' => e = .returned (.int .i64 (Dk.stpE s 2 n k)) ∧ FaR w w' b m (Dk.stpS s 2 n k) := by
  have HF := Lib.hid (find_any h h0 h1)
  have hok := h.ok
  unfold fndE fndF at HF
  cases hd : s.dead with
  | true =>
    rw [hd] at HF
    rw [(stp_dead hd).1, (stp_dead hd).2]
    have HD := Lib.hid h
    clear h hok
    go_enter Tryz.func83, Tryz.ntmps83
    go_wp2_with fail
    refine HF.out.mono ?_
    rintro e w1 ⟨rfl, hg⟩
    have HG := Lib.hid hg
    clear hg HF
    go_wp2
    go_ret
    exact ⟨rfl, (FaR.refl HD.out).up HG.out.alloc⟩
  | false =>
    rw [hd] at HF
    cases hh : Dk.has s.L n with
    | false =>
      rw [hh] at HF
      rw [Dk.get_not hh] at HF
      rw [(stp_no hd hh).1, (stp_no hd hh).2]
      have HD := Lib.hid h
      clear h hok
      go_enter Tryz.func83, Tryz.ntmps83
      go_wp2_with fail
      refine HF.out.mono ?_
      rintro e w1 ⟨rfl, hg⟩
      have HG := Lib.hid hg
      clear hg HF
      go_wp2
      go_ret
      exact ⟨rfl, (FaR.refl HD.out).up HG.out.alloc⟩
    | true =>
      rw [hh] at HF
      obtain ⟨hm1, hm2⟩ := Dk.get_mem hh
      have hsz := size_in hok hm1
      by_cases hk : k < 1 ∨ ((Dk.get s.L n).d.size : Int) < k
      · have HW : Hid (∀ w', Calls Tryz.prog 52 #[.int .i64 k, .int .i64 1, .int .i64 ((Dk.get s.L n).d.size : Int)] w' fun e w2 => e = .returned (.bool false) ∧ w2 = w') := fun w' => by have := within_any k 1 ((Dk.get s.L n).d.size : Int) w'; rw [decide_eq_false (by omega)] at this; exact this
        have HD := Lib.hid h
        rw [(stp_bad hd hh hk).1, (stp_bad hd hh hk).2]
        clear h hok hm1 hm2 hk
        generalize Dk.get s.L n = f at *
        obtain ⟨fn, fd, fy⟩ := f
        simp only at *
        go_enter Tryz.func83, Tryz.ntmps83
        go_wp2_with fail
        refine HF.out.mono ?_
        rintro e w1 ⟨rfl, hg⟩
        have HG := Lib.hid hg
        clear hg HF
        go_wp2_with (go_at_call 52; refine (HW.out _).mono ?_; rintro e w' ⟨rfl, rfl⟩)
        go_ret
        exact ⟨rfl, (FaR.refl HD.out).up HG.out.alloc⟩
      · have HW : Hid (∀ w', Calls Tryz.prog 52 #[.int .i64 k, .int .i64 1, .int .i64 ((Dk.get s.L n).d.size : Int)] w' fun e w2 => e = .returned (.bool true) ∧ w2 = w') := fun w' => by have := within_any k 1 ((Dk.get s.L n).d.size : Int) w'; rw [decide_eq_true (by omega)] at this; exact this
        have hk2 : ¬ ((2 : Int) = 2 ∧ ((k : Int) < 1 ∨ ((Dk.get s.L n).d.size : Int) < k)) := by exact fun e => hk e.2
        have es : Dk.siz 2 (Dk.get s.L n) k = k := by simp [Dk.siz]
        rw [(stp_go hd hh hk2).1, (stp_go hd hh hk2).2, es]
        have HFs : Hid (∀ w', Calls Tryz.prog 98 #[flV (Dk.get s.L n), .int .i64 k] w' fun e w2 => e = .returned (flV (Dk.fst (Dk.get s.L n) k)) ∧ Gr w' w2) := fun w' => first_any _ w' (by omega) (by omega) (by omega)
        have HCh : Hid (∀ w', Gr w w' → Calls Tryz.prog 97 #[ptr b, flV (Dk.fst (Dk.get s.L n) k)] w' fun e w2 => e = .returned (.int .i64 (Dk.cntE s)) ∧ FaR w w2 b m (Dk.chS s (Dk.fst (Dk.get s.L n) k))) := by
          intro w' g
          refine (change_any (h.gr g) hm1 (by omega) (by omega)).mono ?_
          rintro e w2 ⟨rfl, hr⟩
          exact ⟨rfl, FaR.gr g hr⟩
        clear h hok hm1 hm2 hk2 es
        generalize Dk.chS s (Dk.fst (Dk.get s.L n) k) = cs at *
        generalize Dk.fst (Dk.get s.L n) k = ff at *
        generalize Dk.get s.L n = f at *
        obtain ⟨fn, fd, fy⟩ := f
        obtain ⟨gn, gd, gy⟩ := ff
        simp only at *
        go_enter Tryz.func83, Tryz.ntmps83
        go_wp2_with fail
        refine HF.out.mono ?_
        rintro e w1 ⟨rfl, hg⟩
        have HG := Lib.hid hg
        clear hg HF
        go_wp2_with (go_at_call 52; refine (HW.out _).mono ?_; rintro e w' ⟨rfl, hw⟩; obtain rfl := hw.symm; clear hw)
        refine (HFs.out _).mono ?_
        rintro e w2 ⟨rfl, hg2⟩
        have HG2 := Lib.hid (HG.out.alloc.trans hg2)
        clear hg2 HFs
        go_wp2_with fail
        refine (HCh.out _ HG2.out).mono ?_
        rintro e w3 ⟨rfl, hr⟩
        have HR := Lib.hid hr
        clear hr
        go_wp2
        go_ret
        exact ⟨rfl, HR.out⟩
set_option maxHeartbeats 4000000 in
set_option maxRecDepth 100000 in
theorem remove_any (h : DAt w b m A s) {n : Int} (h0 : -9223372036854775808 ≤ n) (h1 : n ≤ 9223372036854775807) :
    Calls Tryz.prog 77 #[ptr b, .int .i64 n] w fun e w' => e = .returned (.int .i64 (Dk.stpE s 3 n 0)) ∧ FaR w w' b m (Dk.stpS s 3 n 0) := by
  have HF := Lib.hid (find_any h h0 h1)
  have hok := h.ok
  unfold fndE fndF at HF
  cases hd : s.dead with
  | true =>
    rw [hd] at HF
    rw [(stp_dead hd).1, (stp_dead hd).2]
    have HD := Lib.hid h
    clear h hok
    go_enter Tryz.func77, Tryz.ntmps77
    go_wp2_with fail
    refine HF.out.mono ?_
    rintro e w1 ⟨rfl, hg⟩
    have HG := Lib.hid hg
    clear hg HF
    go_wp2
    go_ret
    exact ⟨rfl, (FaR.refl HD.out).up HG.out.alloc⟩
  | false =>
    rw [hd] at HF
    cases hh : Dk.has s.L n with
    | false =>
      rw [hh] at HF
      rw [Dk.get_not hh] at HF
      rw [(stp_no hd hh).1, (stp_no hd hh).2]
      have HD := Lib.hid h
      clear h hok
      go_enter Tryz.func77, Tryz.ntmps77
      go_wp2_with fail
      refine HF.out.mono ?_
      rintro e w1 ⟨rfl, hg⟩
      have HG := Lib.hid hg
      clear hg HF
      go_wp2
      go_ret
      exact ⟨rfl, (FaR.refl HD.out).up HG.out.alloc⟩
    | true =>
      rw [hh] at HF
      obtain ⟨hm1, hm2⟩ := Dk.get_mem hh
      have hsz := size_in hok hm1
      have hk2 : ¬ ((3 : Int) = 2 ∧ ((0 : Int) < 1 ∨ ((Dk.get s.L n).d.size : Int) < 0)) := by omega
      have es : Dk.siz 3 (Dk.get s.L n) 0 = 0 := by simp [Dk.siz]
      rw [(stp_go hd hh hk2).1, (stp_go hd hh hk2).2, es]
      have HFs : Hid (∀ w', Calls Tryz.prog 98 #[flV (Dk.get s.L n), .int .i64 0] w' fun e w2 => e = .returned (flV (Dk.fst (Dk.get s.L n) 0)) ∧ Gr w' w2) := fun w' => first_any _ w' (by omega) (by omega) (by omega)
      have HCh : Hid (∀ w', Gr w w' → Calls Tryz.prog 97 #[ptr b, flV (Dk.fst (Dk.get s.L n) 0)] w' fun e w2 => e = .returned (.int .i64 (Dk.cntE s)) ∧ FaR w w2 b m (Dk.chS s (Dk.fst (Dk.get s.L n) 0))) := by
        intro w' g
        refine (change_any (h.gr g) hm1 (by omega) (by omega)).mono ?_
        rintro e w2 ⟨rfl, hr⟩
        exact ⟨rfl, FaR.gr g hr⟩
      clear h hok hm1 hm2 hk2 es
      generalize Dk.chS s (Dk.fst (Dk.get s.L n) 0) = cs at *
      generalize Dk.fst (Dk.get s.L n) 0 = ff at *
      generalize Dk.get s.L n = f at *
      obtain ⟨fn, fd, fy⟩ := f
      obtain ⟨gn, gd, gy⟩ := ff
      simp only at *
      go_enter Tryz.func77, Tryz.ntmps77
      go_wp2_with fail
      refine HF.out.mono ?_
      rintro e w1 ⟨rfl, hg⟩
      have HG := Lib.hid hg
      clear hg HF
      go_wp2_with fail
      refine (HFs.out _).mono ?_
      rintro e w2 ⟨rfl, hg2⟩
      have HG2 := Lib.hid (HG.out.alloc.trans hg2)
      clear hg2 HFs
      go_wp2_with fail
      refine (HCh.out _ HG2.out).mono ?_
      rintro e w3 ⟨rfl, hr⟩
      have HR := Lib.hid hr
      clear hr
      go_wp2
      go_ret
      exact ⟨rfl, HR.out⟩
set_option maxHeartbeats 4000000 in
set_option maxRecDepth 100000 in
theorem arm_any (h : DAt w b m A s) {n : Int} (h1 : n ≤ 9223372036854775807) {ad : Option Addr} {cap : Nat} {l : List Int} (hl : KAt w ad cap l) :
    Calls Tryz.prog 17 #[ptr b, .int .i64 n, .slice ad l.length cap] w fun e w' => e = .returned (.int .i64 (Dk.armE s n)) ∧ FaR w w' b m (Dk.armS s n l) := by
  have HP := Lib.hid (power_any h)
  unfold Dk.armE Dk.armS
  unfold Dk.craE at HP
  cases hd : s.dead with
  | true =>
    rw [hd] at HP
    have HD := Lib.hid h
    clear h hl
    go_enter Tryz.func17, Tryz.ntmps17
    go_wp2_with (go_at_call 41; refine HP.out.mono ?_; rintro e w' ⟨rfl, hw⟩; obtain rfl := hw.symm; clear hw)
    go_ret
    exact ⟨rfl, FaR.refl HD.out⟩
  | false =>
    rw [hd] at HP
    by_cases h2 : n < 0
    · have HD := Lib.hid h
      simp only [if_pos h2]
      clear h hl
      go_enter Tryz.func17, Tryz.ntmps17
      go_wp2_with (go_at_call 41; refine HP.out.mono ?_; rintro e w' ⟨rfl, hw⟩; obtain rfl := hw.symm; clear hw)
      go_ret
      exact ⟨rfl, FaR.refl HD.out⟩
    · simp only [if_neg h2]
      have HPl := Lib.hid (places_any hl)
      have HD := Lib.hid h
      have HO : Hid (Ok { s with left := n, keep := l }) := ⟨h.ok.up, h.ok.fo, h.ok.len, h.ok.fits, h.ok.r1, by simp only; omega, h1⟩
      have h2b : decide (n < 0) = false := decide_eq_false h2
      clear h hl
      go_enter Tryz.func17, Tryz.ntmps17
      go_wp2_with (go_at_call 41; refine HP.out.mono ?_; rintro e w' ⟨rfl, hw⟩; obtain rfl := hw.symm; clear hw)
      refine HPl.out.mono ?_
      rintro e w1 ⟨rfl, hg⟩
      have hd1 := HD.out.gr hg
      have HR : Hid (FaR w (setK (w1.setCell ⟨b, 3, none⟩ (.int .i64 n)) b (kf l)) b m { s with left := n, keep := l }) := by
        obtain ⟨q1, q2⟩ := hd1.setArm n l HO.out
        exact FaR.mk q1 ((Td.gr hg).trans q2)
      have c3 := hd1.lf
      have k0 := hd1.kp 0 (by omega)
      have k1 := hd1.kp 1 (by omega)
      have k2 := hd1.kp 2 (by omega)
      have k3 := hd1.kp 3 (by omega)
      have k4 := hd1.kp 4 (by omega)
      have k5 := hd1.kp 5 (by omega)
      have k6 := hd1.kp 6 (by omega)
      have k7 := hd1.kp 7 (by omega)
      simp only [Nat.reduceAdd, Nat.add_zero] at k0 k1 k2 k3 k4 k5 k6 k7
      have f3 := hd1.fz 3 (by omega)
      have f4 := hd1.fz 4 (by omega)
      have f5 := hd1.fz 5 (by omega)
      have f6 := hd1.fz 6 (by omega)
      have f7 := hd1.fz 7 (by omega)
      have f8 := hd1.fz 8 (by omega)
      have f9 := hd1.fz 9 (by omega)
      have f10 := hd1.fz 10 (by omega)
      have f11 := hd1.fz 11 (by omega)
      clear hd1 hg HPl
      go_wp2
      go_ret
      exact ⟨rfl, by rw [hd] at HR; exact HR.out⟩
set_option maxHeartbeats 4000000 in
set_option maxRecDepth 100000 in
theorem boot_any (h : DAt w b m A s) : Calls Tryz.prog 40 #[ptr b] w fun e w' => e = .returned (.int .i64 0) ∧ FaR w w' b m (Dk.booS s) := by
  have hN := isNone_any h
  have HR := Lib.hid (FaR.mk (h.setDead false) (Td.set _ _ _ _ _))
  have c2 := h.dd
  have f2 := h.fz 2 (by omega)
  clear h
  go_enter Tryz.func40, Tryz.ntmps40
  go_wp2_with (go_at_call 49; refine hN.mono ?_; rintro e w' ⟨rfl, hw⟩; obtain rfl := hw.symm; clear hw)
  go_ret
  exact ⟨rfl, HR.out⟩
set_option maxHeartbeats 4000000 in
set_option maxRecDepth 100000 in
theorem dead_any (h : DAt w b m A s) : Calls Tryz.prog 21 #[ptr b] w fun e w' => e = .returned (.bool s.dead) ∧ w' = w := by
  have hN := isNone_any h
  have c2 := h.dd
  clear h
  go_enter Tryz.func21, Tryz.ntmps21
  go_wp2_with (go_at_call 49; refine hN.mono ?_; rintro e w' ⟨rfl, hw⟩; obtain rfl := hw.symm; clear hw)
  go_ret
  exact ⟨rfl, rfl⟩
end Go.Proofs.YtojmhhmpmpbpfaaGreatDoor
namespace Go.Proofs.YtojmhhmpmpbpfaaGreatDoor
open Go.RowKit
open Dk (Fl Fo St Ok Up zf emp used cutF fallA kf)

def flf (f : Fl) : List Value := [.int .i64 f.n, .string f.d, .int .i64 f.y]
theorem flf_len (x : Fl) : (flf x).length = 3 := rfl
theorem infoF : (Tryz.prog.info? 24).map (fun i => (i.zero, i.size, i.bytes)) = some (some (.agg #[.int .i64 0, .string ⟨#[]⟩, .int .i64 0]), 3, 32) := by kernel_rfl
theorem flf_one (L : List Fl) : ∀ u ∈ L.flatMap flf, u.oneCell' = true := by
  intro u hu
  obtain ⟨x, _, h⟩ := List.mem_flatMap.1 hu
  simp only [flf, List.mem_cons, List.not_mem_nil, or_false] at h
  rcases h with rfl | rfl | rfl <;> rfl
theorem fl_at {w : World} {L : List Fl} {ad : Option Addr} (h : RowAt flf w ad L) (k : Nat) (hk : k < L.length) : ∃ x off, ad = some ⟨x, off, none⟩ ∧ x < w.heap.size ∧ w.cell? ⟨x, off + k * 3, none⟩ = some (.int .i64 L[k].n) ∧ w.cell? ⟨x, off + k * 3 + 1, none⟩ = some (.string L[k].d) ∧ w.cell? ⟨x, off + k * 3 + 2, none⟩ = some (.int .i64 L[k].y) := by
  obtain ⟨x, off, e, h1, h2⟩ := h _ _ (flat_get flf_len L k hk 0 (by omega))
  obtain ⟨x', off', e', _, h3⟩ := h _ _ (flat_get flf_len L k hk 1 (by omega))
  obtain ⟨x'', off'', e'', _, h4⟩ := h _ _ (flat_get flf_len L k hk 2 (by omega))
  subst e
  cases e'
  cases e''
  exact ⟨_, _, rfl, h1, h2, by rw [← Nat.add_assoc] at h3; exact h3, by rw [← Nat.add_assoc] at h4; exact h4⟩
/- one file in a new block -/
theorem fl_new (w : World) (f : Fl) : ∀ j u, ([f].flatMap flf)[j]? = some u → (w.alloc (.cells #[.int .i64 f.n, .string f.d, .int .i64 f.y] 24)).cell? ((⟨w.heap.size, 0, none⟩ : Addr).add j) = some u := by
  intro j u h
  rw [Addr.add_lit, Nat.zero_add]
  simp only [List.flatMap_cons, List.flatMap_nil, List.append_nil, flf] at h
  match j, h with
  | 0, h => simpa using h
  | 1, h => simpa using h
  | 2, h => simpa using h
theorem fl_snoc (R : List Fl) (f : Fl) : (R ++ [f]).flatMap flf = R.flatMap flf ++ [f].flatMap flf := by rw [List.flatMap_append]
theorem own_gr {a w w' : World} {base : Nat} {e : TypeId} {size n : Nat} {v : Value} {xs : List Value} (h : w.ownsRow base e size v n xs) (g : Gr a w) (k : w.grownBy w' v.ownBlock) (hb : a.heap.size ≤ base) : Gr a w' :=
  g.grown k (fun j hj => Nat.le_trans hb (h.lt j hj).1)
theorem row_keep {w w' : World} {base : Nat} {e : TypeId} {size n : Nat} {v : Value} {xs : List Value} (h : w.ownsRow base e size v n xs) (hk : ∀ j, v.ownBlock = some j → w'.heap[j]? = w.heap[j]?) : w'.ownsRow base e size v n xs := by
  obtain ⟨h1, ⟨rfl, h2⟩ | ⟨g, cap, cur, rfl, h3, h4, h5⟩⟩ := h
  · exact ⟨h1, Or.inl ⟨rfl, h2⟩⟩
  · exact ⟨h1, Or.inr ⟨g, cap, cur, rfl, h3, (hk g rfl).trans h4, h5⟩⟩
theorem row_gr {w w' : World} {base : Nat} {e : TypeId} {size n : Nat} {v : Value} {xs : List Value} (h : w.ownsRow base e size v n xs) (g : Gr w w') : w'.ownsRow base e size v n xs :=
  row_keep h (fun j hj => g.below.block j (h.lt j hj).2)
theorem own_slice {w : World} {base : Nat} {e : TypeId} {size n : Nat} {v : Value} {xs : List Value} (h : w.ownsRow base e size v n xs) : ∃ ad cap, v = .slice ad n cap := by
  obtain ⟨h1, ⟨rfl, h2⟩ | ⟨g, cap, cur, rfl, _⟩⟩ := h
  · exact ⟨none, 0, by rw [h2]⟩
  · exact ⟨_, _, rfl⟩
theorem own_none (w : World) (base : Nat) : w.ownsRow base 24 3 (.slice none 0 0) 0 [] := ⟨by simp, Or.inl ⟨rfl, rfl⟩⟩
end Go.Proofs.YtojmhhmpmpbpfaaGreatDoor
namespace Go.Proofs.YtojmhhmpmpbpfaaGreatDoor
open Go.RowKit Go.Maps
open Dk (Fl Fo St Ok Up zf emp used cutF fallA kf)
variable {w w' : World} {b m : Nat} {A : Nat → Int} {s : St}

def ImR (w w' : World) (L : List Fl) (e : Ending) : Prop := ∃ ad cap, e = .returned (.slice ad L.length cap) ∧ RowAt flf w' ad L ∧ (∀ a, ad = some a → w.heap.size ≤ a.block) ∧ Gr w w'
/- the same, with its room -/
def ImQ (w w' : World) (L : List Fl) (e : Ending) : Prop := ∃ ad cap, e = .returned (.slice ad L.length cap) ∧ RowAt flf w' ad L ∧ (∀ a, ad = some a → w.heap.size ≤ a.block) ∧ Gr w w' ∧ L.length ≤ cap
set_option maxHeartbeats 8000000 in
set_option maxRecDepth 100000 in
theorem image_cap (h : DAt w b m A s) : Calls Tryz.prog 12 #[ptr b] w fun e w' => ImQ w w' s.L e := by
  have HF := Lib.hid (files_any h)
  have HD := Lib.hid h
  have HO := Lib.hid h.ok
  have hl8 := h.ok.len
  clear h
  obtain ⟨i0, hi0, hz0, hz1, hz2⟩ := info_parts infoF
  go_enter Tryz.func12, Tryz.ntmps12
  go_wp2_with fail
  refine HF.out.mono ?_
  rintro e w1 ⟨v, rfl, hrow, hnil, hg1⟩
  rw [nms_flat] at hrow
  obtain ⟨ad, cap, rfl, hcap, hcm, hR, hbase, _⟩ := own_row hrow
  have HG1 := Lib.hid hg1
  have HRw := Lib.hid hR
  have HD1 := Lib.hid (HD.out.gr hg1)
  clear hrow hnil hg1 hR hbase HF HD
  go_wp2
  go_loopw [9, 3] (fun i v wr => ∃ (k : Nat), k ≤ s.L.length ∧ i = .int .i64 (k : Int) ∧ wr.ownsRow w1.heap.size 24 3 v k ((s.L.take k).flatMap flf) ∧ Gr w1 wr) (fun i _ _ => s.L.length - (intOf i).toNat)
  case atStart => exact ⟨0, Nat.zero_le _, rfl, own_none _ _, Gr.refl _⟩
  case round =>
    rename_i v
    obtain ⟨k, hk, rfl, hown, hg⟩ := hrel
    have HG := Lib.hid hg
    have HOw := Lib.hid hown
    clear hown hg
    by_cases hlt : k < s.L.length
    · have hfo := HO.out.fo s.L[k] (List.getElem_mem hlt)
      have hn0 := hfo.n0
      have hn1 := hfo.n1
      have hsz : s.L[k].d.size ≤ 200000 := by
        have h1 := Dk.used_del HO.out.up (Dk.has_of (List.getElem_mem hlt))
        rw [Dk.get_of HO.out.up (List.getElem_mem hlt)] at h1
        have := HO.out.fits; have := HO.out.r1; omega
      have hd := HD1.out.gr HG.out
      have hlook := (hd.fl.look (k := s.L[k].n) (by omega) (by omega)).2
      rw [Dk.get_of HO.out.up (List.getElem_mem hlt)] at hlook
      have hmp := hd.mp
      obtain ⟨x, off, hade, hxb, hxc⟩ := num_at HRw.out k hlt
      have hnum := HG.out.keep hxc
      have HCl : Hid (∀ w', Calls Tryz.prog 27 #[flV s.L[k]] w' fun e w2 => e = .returned (flV s.L[k]) ∧ Gr w' w2) := fun w' => own_any _ w' (by omega)
      have HT : Hid ((s.L.take (k + 1)).flatMap flf = (s.L.take k).flatMap flf ++ flf s.L[k]) := by show _ = _; rw [List.take_succ_eq_append_getElem hlt, fl_snoc]; simp
      subst hade
      clear hd hfo hxc
      generalize s.L[k] = f at *
      obtain ⟨fn, fd, fy⟩ := f
      obtain ⟨va, vc, rfl⟩ := own_slice HOw.out
      simp only at *
      go_wp2_with fail
      refine (HCl.out _).mono ?_
      rintro e w2 ⟨rfl, hg2⟩
      have HG2 := Lib.hid (HG.out.trans hg2)
      have HOw2 := Lib.hid (row_gr HOw.out (hg2.alloc (o := .cells #[.int .i64 fn, .string fd, .int .i64 fy] 24)))
      have HNw := Lib.hid (fl_new w2 ⟨fn, fd, fy⟩)
      have hsz1 := HG2.out.size
      clear hlook hmp hnum hg2
      go_wp2_with (first
        | (at_builtin; refine wpList_append_own _ rfl _ _ 22 rfl w1.heap.size 24 i0 (.agg #[.int .i64 0, .string ⟨#[]⟩, .int .i64 0]) 3 32 Tryz.underlying22 hi0 hz0 hz1 hz2 rfl (by decide) _ _ _ rfl HOw2.out ⟨w2.heap.size, 0, none⟩ 1 1 ([(⟨fn, fd, fy⟩ : Fl)].flatMap flf) rfl rfl HNw.out (flf_one _) (by unfold maxLen; omega) (by omega) (by simp; omega) ?_)
        | fail)
      intro v' w3 hown' hgrow _
      rw [← HT.out] at hown'
      have HGF := Lib.hid (own_gr HOw2.out HG2.out.alloc hgrow (Nat.le_refl _))
      have HOF := Lib.hid hown'
      clear hown' hgrow
      go_wp2
      go_roundw
      case rel => exact ⟨k + 1, by omega, by simp, HOF.out, HGF.out⟩
      case measure => simp [intOf]; omega
    · obtain rfl : k = s.L.length := by omega
      have hown := HOw.out
      rw [List.take_length] at hown
      obtain ⟨va, vc, rfl, hvc, _, hrow, hb, _⟩ := own_row hown
      have HR : Hid (ImQ w wr s.L (.returned (.slice va s.L.length vc))) := ⟨va, vc, rfl, hrow, fun a e => Nat.le_trans HG1.out.size (hb a e), HG1.out.trans HG.out, hvc⟩
      clear hown hrow hb hvc
      go_wp2
      go_ret
      exact HR.out
theorem image_any (h : DAt w b m A s) : Calls Tryz.prog 12 #[ptr b] w fun e w' => ImR w w' s.L e := by
  refine (image_cap h).mono ?_
  rintro e w' ⟨ad, cap, h1, h2, h3, h4, _⟩
  exact ⟨ad, cap, h1, h2, h3, h4⟩
end Go.Proofs.YtojmhhmpmpbpfaaGreatDoor
namespace Go.Proofs.YtojmhhmpmpbpfaaGreatDoor
open Go.RowKit

theorem toL_inj (a b : ByteArray) : (a.toList = b.toList) ↔ a = b := by
  constructor
  · intro h
    rw [ByteArray.toList_eq, ByteArray.toList_eq] at h
    cases a; cases b
    simp only at h
    congr 1
    exact Array.toList_inj.1 h
  · rintro rfl; rfl
set_option maxHeartbeats 1000000 in
set_option maxRecDepth 100000 in
theorem sameG_any (L M : List ByteArray) (a1 a2 : Option Addr) (c1 c2 : Nat) (w : World) (hn : L.length ≤ 9223372036854775807) (hm : M.length ≤ 9223372036854775807) (h1 : StrsAt w a1 L) (h2 : StrsAt w a2 M) :
    Calls Tryz.prog 10 #[.slice a1 L.length c1, .slice a2 M.length c2] w fun e w' => e = .returned (.bool (decide (L = M))) ∧ Gr w w' := by
  have H1 : Hid (StrsAt w a1 L) := h1
  have H2 : Hid (StrsAt w a2 M) := h2
  clear h1 h2
  by_cases hl : L.length = M.length
  · rw [← hl]
    go_enter Tryz.func10, Tryz.ntmps10
    go_wp2
    go_loopw [5] (fun i wr => ∃ k : Nat, k ≤ L.length ∧ i = .int .i64 k ∧ L.take k = M.take k ∧ Gr w wr) (fun i _ => L.length - (intOf i).toNat)
    case atStart => exact ⟨0, by omega, rfl, by simp, Gr.refl _⟩
    case round =>
      obtain ⟨k, hk, rfl, he, hg⟩ := hrel
      by_cases hlt : k < L.length
      · have hlt2 : k < M.length := by omega
        obtain ⟨b, off, rfl, hbl, hc⟩ := H1.out k hlt
        obtain ⟨b2, off2, rfl, hbl2, hc2⟩ := H2.out k hlt2
        have hc' : wr.cell? ⟨b, off + k, none⟩ = some (.string L[k]) := hg.keep hc
        have hc2' : wr.cell? ⟨b2, off2 + k, none⟩ = some (.string M[k]) := hg.keep hc2
        have hb1 : (0 : Int) ≤ (k : Int) := by omega
        have hb2 : (k : Int) < (L.length : Int) := by omega
        have HE := Lib.hid he
        clear hc hc2 he
        by_cases hx : L[k] = M[k]
        · have HX := Lib.hid (show L.take (k + 1) = M.take (k + 1) by rw [List.take_succ_eq_append_getElem hlt, List.take_succ_eq_append_getElem hlt2, HE.out, hx])
          rw [← hx] at hc2'
          go_wp2_with fail
          go_quiet (fail)
          go_wp2
          go_roundw
          case rel => exact ⟨k + 1, by omega, by go_num, HX.out, hg.trans ⟨below_drewN (Below.refl _ _) _⟩⟩
          case measure => simp [intOf]; omega
        · have HX : Hid (decide (L = M) = false) := decide_eq_false (fun e => hx (by subst e; rfl))
          have hxb : (L[k].toList == M[k].toList) = false := by
            have : ¬ L[k].toList = M[k].toList := fun e => hx ((toL_inj _ _).1 e)
            simpa using this
          clear HE
          generalize L[k] = x at *
          generalize M[k] = y at *
          go_wp2_with fail
          go_quiet (fail)
          go_wp2
          go_ret
          exact ⟨by rw [HX.out]; rfl, hg.trans ⟨below_drewN (Below.refl _ _) _⟩⟩
      · have HX : Hid (decide (L = M) = true) := decide_eq_true (by rw [List.take_of_length_le (by omega), List.take_of_length_le (by omega)] at he; exact he)
        clear he
        go_wp2
        go_ret
        exact ⟨by rw [HX.out]; rfl, hg⟩
  · have HX : Hid (decide (L = M) = false) := decide_eq_false (fun e => hl (by rw [e]))
    have hlb : ((L.length : Int) == (M.length : Int)) = false := by
      have : ¬ ((L.length : Int) = (M.length : Int)) := by omega
      simpa using this
    go_enter Tryz.func10, Tryz.ntmps10
    go_wp2
    go_ret
    exact ⟨by rw [HX.out]; rfl, Gr.refl _⟩
end Go.Proofs.YtojmhhmpmpbpfaaGreatDoor
