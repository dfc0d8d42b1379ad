/- Parts of these proofs, laid together. -/
import Derived.Test.YtojmhhmpmpbpfaaDoorGK
import Derived.Test.YtojmhhmpmpbpfaaDoorGJ
namespace Go.Proofs.YtojmhhmpmpbpfaaDoor
open Go.RowKit Go.Maps
open Dk (Fl Fo St Ok Up zf emp used cutF fallA kf)
variable {w w' : World} {b m : Nat} {A : Nat → Int} {s : St}

theorem has_true {L : List Fl} {n : Int} (h : ¬ Dk.has L n = false) : Dk.has L n = true := by cases e : Dk.has L n with | true => rfl | false => exact absurd e h
theorem size_in (h : Ok s) {g : Fl} (hg : g ∈ s.L) : g.d.size ≤ 200000 := by
  have h1 := Dk.used_del h.up (Dk.has_of hg)
  rw [Dk.get_of h.up hg] at h1
  have := h.fits; have := h.r1; omega
theorem stp_dead {q n k : Int} (hd : s.dead = true) : Dk.stpE s q n k = 150 ∧ Dk.stpS s q n k = s := by simp [Dk.stpE, Dk.stpS, hd]
theorem stp_no {q n k : Int} (hd : s.dead = false) (hh : Dk.has s.L n = false) : Dk.stpE s q n k = 152 ∧ Dk.stpS s q n k = s := by simp [Dk.stpE, Dk.stpS, hd, hh]
theorem stp_bad {n k : Int} (hd : s.dead = false) (hh : Dk.has s.L n = true) (hk : k < 1 ∨ ((Dk.get s.L n).d.size : Int) < k) : Dk.stpE s 2 n k = 2 ∧ Dk.stpS s 2 n k = s := by simp [Dk.stpE, Dk.stpS, hd, hh, hk]
theorem stp_go {q n k : Int} (hd : s.dead = false) (hh : Dk.has s.L n = true) (hk : ¬ (q = 2 ∧ (k < 1 ∨ ((Dk.get s.L n).d.size : Int) < k))) : Dk.stpE s q n k = Dk.cntE s ∧ Dk.stpS s q n k = Dk.chS s (Dk.fst (Dk.get s.L n) (Dk.siz q (Dk.get s.L n) k)) := by
  unfold Dk.stpE Dk.stpS
  rw [hd, hh, if_neg hk, if_neg hk]
  simp
theorem DAt.setArm (h : DAt w b m A s) (n : Int) (l : List Int) (hk : Ok { s with left := n, keep := l }) : DAt (setK (w.setCell ⟨b, 3, none⟩ (.int .i64 n)) b (kf l)) b m (kf l) { s with left := n, keep := l } ∧ Td w (setK (w.setCell ⟨b, 3, none⟩ (.int .i64 n)) b (kf l)) b m := by
  have hne := h.ne
  have h0 := h.mp
  have h1 := h.rm
  have h2 := h.dd
  have h3 := h.lf
  have k0 := h.kp 0 (by omega)
  have k1 := h.kp 1 (by omega)
  have k2 := h.kp 2 (by omega)
  have k3 := h.kp 3 (by omega)
  have k4 := h.kp 4 (by omega)
  have k5 := h.kp 5 (by omega)
  have k6 := h.kp 6 (by omega)
  have k7 := h.kp 7 (by omega)
  simp only [Nat.reduceAdd, Nat.add_zero] at k0 k1 k2 k3 k4 k5 k6 k7
  refine ⟨⟨by simp [setK, go_sem, *], by simp [setK, go_sem, *], by simp [setK, go_sem, *], by simp [setK, go_sem, *], ?_, ?_, ?_, fun _ _ _ => rfl, hk⟩, ?_⟩
  · intro i hi
    match i, hi with
    | 0, _ => simp [setK, go_sem, *]
    | 1, _ => simp [setK, go_sem, *]
    | 2, _ => simp [setK, go_sem, *]
    | 3, _ => simp [setK, go_sem, *]
    | 4, _ => simp [setK, go_sem, *]
    | 5, _ => simp [setK, go_sem, *]
    | 6, _ => simp [setK, go_sem, *]
    | 7, _ => simp [setK, go_sem, *]
  · intro o ho
    simp only [setK, World.frozen?_setCell]
    exact h.fz o ho
  · exact ((((((((h.fl.set hne _ _).set hne _ _).set hne _ _).set hne _ _).set hne _ _).set hne _ _).set hne _ _).set hne _ _).set hne _ _
  · exact ((((((((Td.set _ _ _ _ _).trans (Td.set _ _ _ _ _)).trans (Td.set _ _ _ _ _)).trans (Td.set _ _ _ _ _)).trans (Td.set _ _ _ _ _)).trans (Td.set _ _ _ _ _)).trans (Td.set _ _ _ _ _)).trans (Td.set _ _ _ _ _)).trans (Td.set _ _ _ _ _)
set_option maxHeartbeats 4000000 in
set_option maxRecDepth 100000 in
theorem sync_any (h : DAt w b m A s) {n : Int} (h0 : -9223372036854775808 ≤ n) (h1 : n ≤ 9223372036854775807) :
    Calls Tryd.prog 36 #[ptr b, .int .i64 n] w fun e w' => e = .returned (.int .i64 (Dk.stpE s 1 n 0)) ∧ FaR w w' b m (Dk.stpS s 1 n 0) := by
  have HF := Lib.hid (find_any h h0 h1)
  have hok := h.ok
  unfold fndE fndF at HF
  cases hd : s.dead with
  | true =>
    rw [hd] at HF
    rw [(stp_dead hd).1, (stp_dead hd).2]
    have HD := Lib.hid h
    clear h hok
    go_enter Tryd.func36, Tryd.ntmps36
    go_wp2_with fail
    refine HF.out.mono ?_
    rintro e w1 ⟨rfl, hg⟩
    have HG := Lib.hid hg
    clear hg HF
    go_wp2
    go_ret
    exact ⟨rfl, (FaR.refl HD.out).up HG.out.alloc⟩
  | false =>
    rw [hd] at HF
    cases hh : Dk.has s.L n with
    | false =>
      rw [hh] at HF
      rw [Dk.get_not hh] at HF
      rw [(stp_no hd hh).1, (stp_no hd hh).2]
      have HD := Lib.hid h
      clear h hok
      go_enter Tryd.func36, Tryd.ntmps36
      go_wp2_with fail
      refine HF.out.mono ?_
      rintro e w1 ⟨rfl, hg⟩
      have HG := Lib.hid hg
      clear hg HF
      go_wp2
      go_ret
      exact ⟨rfl, (FaR.refl HD.out).up HG.out.alloc⟩
    | true =>
      rw [hh] at HF
      obtain ⟨hm1, hm2⟩ := Dk.get_mem hh
      have hsz := size_in hok hm1
      have hk2 : ¬ ((1 : Int) = 2 ∧ ((0 : Int) < 1 ∨ ((Dk.get s.L n).d.size : Int) < 0)) := by omega
      have es : Dk.siz 1 (Dk.get s.L n) 0 = ((Dk.get s.L n).d.size : Int) := by simp [Dk.siz]
      rw [(stp_go hd hh hk2).1, (stp_go hd hh hk2).2, es]
      have HFs : Hid (∀ w', Calls Tryd.prog 64 #[flV (Dk.get s.L n), .int .i64 ((Dk.get s.L n).d.size : Int)] w' fun e w2 => e = .returned (flV (Dk.fst (Dk.get s.L n) ((Dk.get s.L n).d.size : Int))) ∧ Gr w' w2) := fun w' => first_any _ w' (by omega) (by omega) (by omega)
      have HCh : Hid (∀ w', Gr w w' → Calls Tryd.prog 63 #[ptr b, flV (Dk.fst (Dk.get s.L n) ((Dk.get s.L n).d.size : Int))] w' fun e w2 => e = .returned (.int .i64 (Dk.cntE s)) ∧ FaR w w2 b m (Dk.chS s (Dk.fst (Dk.get s.L n) ((Dk.get s.L n).d.size : Int)))) := by
        intro w' g
        refine (change_any (h.gr g) hm1 (by omega) (by omega)).mono ?_
        rintro e w2 ⟨rfl, hr⟩
        exact ⟨rfl, FaR.gr g hr⟩
      clear h hok hm1 hm2 hk2 es
      generalize Dk.chS s (Dk.fst (Dk.get s.L n) ((Dk.get s.L n).d.size : Int)) = cs at *
      generalize Dk.fst (Dk.get s.L n) ((Dk.get s.L n).d.size : Int) = ff at *
      generalize Dk.get s.L n = f at *
      obtain ⟨fn, fd, fy⟩ := f
      obtain ⟨gn, gd, gy⟩ := ff
      simp only at *
      go_enter Tryd.func36, Tryd.ntmps36
      go_wp2_with fail
      refine HF.out.mono ?_
      rintro e w1 ⟨rfl, hg⟩
      have HG := Lib.hid hg
      clear hg HF
      go_wp2_with fail
      refine (HFs.out _).mono ?_
      rintro e w2 ⟨rfl, hg2⟩
      have HG2 := Lib.hid (HG.out.alloc.trans hg2)
      clear hg2 HFs
      go_wp2_with fail
      refine (HCh.out _ HG2.out).mono ?_
      rintro e w3 ⟨rfl, hr⟩
      have HR := Lib.hid hr
      clear hr
      go_wp2
      go_ret
      exact ⟨rfl, HR.out⟩
set_option maxHeartbeats 4000000 in
set_option maxRecDepth 100000 in
theorem cut_any (h : DAt w b m A s) {n : Int} (h0 : -9223372036854775808 ≤ n) (h1 : n ≤ 9223372036854775807) (k : Int) :
    Calls Tryd.prog 67 #[ptr b, .int .i64 n, .int .i64 k] w fun e w' => e = .returned (.int .i64 (Dk.stpE s 2 n k)) ∧ FaR w w' b m (Dk.stpS s 2 n k) := by
  have HF := Lib.hid (find_any h h0 h1)
  have hok := h.ok
  unfold fndE fndF at HF
  cases hd : s.dead with
  | true =>
    rw [hd] at HF
    rw [(stp_dead hd).1, (stp_dead hd).2]
    have HD := Lib.hid h
    clear h hok
    go_enter Tryd.func67, Tryd.ntmps67
    go_wp2_with fail
    refine HF.out.mono ?_
    rintro e w1 ⟨rfl, hg⟩
    have HG := Lib.hid hg
    clear hg HF
    go_wp2
    go_ret
    exact ⟨rfl, (FaR.refl HD.out).up HG.out.alloc⟩
  | false =>
    rw [hd] at HF
    cases hh : Dk.has s.L n with
    | false =>
      rw [hh] at HF
      rw [Dk.get_not hh] at HF
      rw [(stp_no hd hh).1, (stp_no hd hh).2]
      have HD := Lib.hid h
      clear h hok
      go_enter Tryd.func67, Tryd.ntmps67
      go_wp2_with fail
      refine HF.out.mono ?_
      rintro e w1 ⟨rfl, hg⟩
      have HG := Lib.hid hg
      clear hg HF
      go_wp2
      go_ret
      exact ⟨rfl, (FaR.refl HD.out).up HG.out.alloc⟩
    | true =>
      rw [hh] at HF
      obtain ⟨hm1, hm2⟩ := Dk.get_mem hh
      have hsz := size_in hok hm1
      by_cases hk : k < 1 ∨ ((Dk.get s.L n).d.size : Int) < k
      · have HW : Hid (∀ w', Calls Tryd.prog 59 #[.int .i64 k, .int .i64 1, .int .i64 ((Dk.get s.L n).d.size : Int)] w' fun e w2 => e = .returned (.bool false) ∧ w2 = w') := fun w' => by have := within_any k 1 ((Dk.get s.L n).d.size : Int) w'; rw [decide_eq_false (by omega)] at this; exact this
        have HD := Lib.hid h
        rw [(stp_bad hd hh hk).1, (stp_bad hd hh hk).2]
        clear h hok hm1 hm2 hk
        generalize Dk.get s.L n = f at *
        obtain ⟨fn, fd, fy⟩ := f
        simp only at *
        go_enter Tryd.func67, Tryd.ntmps67
        go_wp2_with fail
        refine HF.out.mono ?_
        rintro e w1 ⟨rfl, hg⟩
        have HG := Lib.hid hg
        clear hg HF
        go_wp2_with (go_at_call 59; refine (HW.out _).mono ?_; rintro e w' ⟨rfl, rfl⟩)
        go_ret
        exact ⟨rfl, (FaR.refl HD.out).up HG.out.alloc⟩
      · have HW : Hid (∀ w', Calls Tryd.prog 59 #[.int .i64 k, .int .i64 1, .int .i64 ((Dk.get s.L n).d.size : Int)] w' fun e w2 => e = .returned (.bool true) ∧ w2 = w') := fun w' => by have := within_any k 1 ((Dk.get s.L n).d.size : Int) w'; rw [decide_eq_true (by omega)] at this; exact this
        have hk2 : ¬ ((2 : Int) = 2 ∧ ((k : Int) < 1 ∨ ((Dk.get s.L n).d.size : Int) < k)) := by exact fun e => hk e.2
        have es : Dk.siz 2 (Dk.get s.L n) k = k := by simp [Dk.siz]
        rw [(stp_go hd hh hk2).1, (stp_go hd hh hk2).2, es]
        have HFs : Hid (∀ w', Calls Tryd.prog 64 #[flV (Dk.get s.L n), .int .i64 k] w' fun e w2 => e = .returned (flV (Dk.fst (Dk.get s.L n) k)) ∧ Gr w' w2) := fun w' => first_any _ w' (by omega) (by omega) (by omega)
        have HCh : Hid (∀ w', Gr w w' → Calls Tryd.prog 63 #[ptr b, flV (Dk.fst (Dk.get s.L n) k)] w' fun e w2 => e = .returned (.int .i64 (Dk.cntE s)) ∧ FaR w w2 b m (Dk.chS s (Dk.fst (Dk.get s.L n) k))) := by
          intro w' g
          refine (change_any (h.gr g) hm1 (by omega) (by omega)).mono ?_
          rintro e w2 ⟨rfl, hr⟩
          exact ⟨rfl, FaR.gr g hr⟩
        clear h hok hm1 hm2 hk2 es
        generalize Dk.chS s (Dk.fst (Dk.get s.L n) k) = cs at *
        generalize Dk.fst (Dk.get s.L n) k = ff at *
        generalize Dk.get s.L n = f at *
        obtain ⟨fn, fd, fy⟩ := f
        obtain ⟨gn, gd, gy⟩ := ff
        simp only at *
        go_enter Tryd.func67, Tryd.ntmps67
        go_wp2_with fail
        refine HF.out.mono ?_
        rintro e w1 ⟨rfl, hg⟩
        have HG := Lib.hid hg
        clear hg HF
        go_wp2_with (go_at_call 59; refine (HW.out _).mono ?_; rintro e w' ⟨rfl, hw⟩; obtain rfl := hw.symm; clear hw)
        refine (HFs.out _).mono ?_
        rintro e w2 ⟨rfl, hg2⟩
        have HG2 := Lib.hid (HG.out.alloc.trans hg2)
        clear hg2 HFs
        go_wp2_with fail
        refine (HCh.out _ HG2.out).mono ?_
        rintro e w3 ⟨rfl, hr⟩
        have HR := Lib.hid hr
        clear hr
        go_wp2
        go_ret
        exact ⟨rfl, HR.out⟩
set_option maxHeartbeats 4000000 in
set_option maxRecDepth 100000 in
theorem remove_any (h : DAt w b m A s) {n : Int} (h0 : -9223372036854775808 ≤ n) (h1 : n ≤ 9223372036854775807) :
    Calls Tryd.prog 38 #[ptr b, .int .i64 n] w fun e w' => e = .returned (.int .i64 (Dk.stpE s 3 n 0)) ∧ FaR w w' b m (Dk.stpS s 3 n 0) := by
  have HF := Lib.hid (find_any h h0 h1)
  have hok := h.ok
  unfold fndE fndF at HF
  cases hd : s.dead with
  | true =>
    rw [hd] at HF
    rw [(stp_dead hd).1, (stp_dead hd).2]
    have HD := Lib.hid h
    clear h hok
    go_enter Tryd.func38, Tryd.ntmps38
    go_wp2_with fail
    refine HF.out.mono ?_
    rintro e w1 ⟨rfl, hg⟩
    have HG := Lib.hid hg
    clear hg HF
    go_wp2
    go_ret
    exact ⟨rfl, (FaR.refl HD.out).up HG.out.alloc⟩
  | false =>
    rw [hd] at HF
    cases hh : Dk.has s.L n with
    | false =>
      rw [hh] at HF
      rw [Dk.get_not hh] at HF
      rw [(stp_no hd hh).1, (stp_no hd hh).2]
      have HD := Lib.hid h
      clear h hok
      go_enter Tryd.func38, Tryd.ntmps38
      go_wp2_with fail
      refine HF.out.mono ?_
      rintro e w1 ⟨rfl, hg⟩
      have HG := Lib.hid hg
      clear hg HF
      go_wp2
      go_ret
      exact ⟨rfl, (FaR.refl HD.out).up HG.out.alloc⟩
    | true =>
      rw [hh] at HF
      obtain ⟨hm1, hm2⟩ := Dk.get_mem hh
      have hsz := size_in hok hm1
      have hk2 : ¬ ((3 : Int) = 2 ∧ ((0 : Int) < 1 ∨ ((Dk.get s.L n).d.size : Int) < 0)) := by omega
      have es : Dk.siz 3 (Dk.get s.L n) 0 = 0 := by simp [Dk.siz]
      rw [(stp_go hd hh hk2).1, (stp_go hd hh hk2).2, es]
      have HFs : Hid (∀ w', Calls Tryd.prog 64 #[flV (Dk.get s.L n), .int .i64 0] w' fun e w2 => e = .returned (flV (Dk.fst (Dk.get s.L n) 0)) ∧ Gr w' w2) := fun w' => first_any _ w' (by omega) (by omega) (by omega)
      have HCh : Hid (∀ w', Gr w w' → Calls Tryd.prog 63 #[ptr b, flV (Dk.fst (Dk.get s.L n) 0)] w' fun e w2 => e = .returned (.int .i64 (Dk.cntE s)) ∧ FaR w w2 b m (Dk.chS s (Dk.fst (Dk.get s.L n) 0))) := by
        intro w' g
        refine (change_any (h.gr g) hm1 (by omega) (by omega)).mono ?_
        rintro e w2 ⟨rfl, hr⟩
        exact ⟨rfl, FaR.gr g hr⟩
      clear h hok hm1 hm2 hk2 es
      generalize Dk.chS s (Dk.fst (Dk.get s.L n) 0) = cs at *
      generalize Dk.fst (Dk.get s.L n) 0 = ff at *
      generalize Dk.get s.L n = f at *
      obtain ⟨fn, fd, fy⟩ := f
      obtain ⟨gn, gd, gy⟩ := ff
      simp only at *
      go_enter Tryd.func38, Tryd.ntmps38
      go_wp2_with fail
      refine HF.out.mono ?_
      rintro e w1 ⟨rfl, hg⟩
      have HG := Lib.hid hg
      clear hg HF
      go_wp2_with fail
      refine (HFs.out _).mono ?_
      rintro e w2 ⟨rfl, hg2⟩
      have HG2 := Lib.hid (HG.out.alloc.trans hg2)
      clear hg2 HFs
      go_wp2_with fail
      refine (HCh.out _ HG2.out).mono ?_
      rintro e w3 ⟨rfl, hr⟩
      have HR := Lib.hid hr
      clear hr
      go_wp2
      go_ret
      exact ⟨rfl, HR.out⟩
end Go.Proofs.YtojmhhmpmpbpfaaDoor
namespace Go.Proofs.YtojmhhmpmpbpfaaDoor
open Go.RowKit Go.Maps
open Dk (Fl Fo St Ok Up zf emp used cutF fallA kf)
variable {w w' : World} {b m : Nat} {A : Nat → Int} {s : St}

def ImR (w w' : World) (L : List Fl) (e : Ending) : Prop := ∃ ad cap, e = .returned (.slice ad L.length cap) ∧ RowAt flf w' ad L ∧ (∀ a, ad = some a → w.heap.size ≤ a.block) ∧ Gr w w'
/- the same, with its room -/
def ImQ (w w' : World) (L : List Fl) (e : Ending) : Prop := ∃ ad cap, e = .returned (.slice ad L.length cap) ∧ RowAt flf w' ad L ∧ (∀ a, ad = some a → w.heap.size ≤ a.block) ∧ Gr w w' ∧ L.length ≤ cap
set_option maxHeartbeats 8000000 in
set_option maxRecDepth 100000 in
theorem image_cap (h : DAt w b m A s) : Calls Tryd.prog 13 #[ptr b] w fun e w' => ImQ w w' s.L e := by
  have HF := Lib.hid (files_any h)
  have HD := Lib.hid h
  have HO := Lib.hid h.ok
  have hl8 := h.ok.len
  clear h
  obtain ⟨i0, hi0, hz0, hz1, hz2⟩ := info_parts infoF
  go_enter Tryd.func13, Tryd.ntmps13
  go_wp2_with fail
  refine HF.out.mono ?_
  rintro e w1 ⟨v, rfl, hrow, hnil, hg1⟩
  rw [nms_flat] at hrow
  obtain ⟨ad, cap, rfl, hcap, hcm, hR, hbase, _⟩ := own_row hrow
  have HG1 := Lib.hid hg1
  have HRw := Lib.hid hR
  have HD1 := Lib.hid (HD.out.gr hg1)
  clear hrow hnil hg1 hR hbase HF HD
  go_wp2
  go_loopw [9, 3] (fun i v wr => ∃ (k : Nat), k ≤ s.L.length ∧ i = .int .i64 (k : Int) ∧ wr.ownsRow w1.heap.size 68 3 v k ((s.L.take k).flatMap flf) ∧ Gr w1 wr) (fun i _ _ => s.L.length - (intOf i).toNat)
  case atStart => exact ⟨0, Nat.zero_le _, rfl, own_none _ _, Gr.refl _⟩
  case round =>
    rename_i v
    obtain ⟨k, hk, rfl, hown, hg⟩ := hrel
    have HG := Lib.hid hg
    have HOw := Lib.hid hown
    clear hown hg
    by_cases hlt : k < s.L.length
    · have hfo := HO.out.fo s.L[k] (List.getElem_mem hlt)
      have hn0 := hfo.n0
      have hn1 := hfo.n1
      have hsz : s.L[k].d.size ≤ 200000 := by
        have h1 := Dk.used_del HO.out.up (Dk.has_of (List.getElem_mem hlt))
        rw [Dk.get_of HO.out.up (List.getElem_mem hlt)] at h1
        have := HO.out.fits; have := HO.out.r1; omega
      have hd := HD1.out.gr HG.out
      have hlook := (hd.fl.look (k := s.L[k].n) (by omega) (by omega)).2
      rw [Dk.get_of HO.out.up (List.getElem_mem hlt)] at hlook
      have hmp := hd.mp
      obtain ⟨x, off, hade, hxb, hxc⟩ := num_at HRw.out k hlt
      have hnum := HG.out.keep hxc
      have HCl : Hid (∀ w', Calls Tryd.prog 31 #[flV s.L[k]] w' fun e w2 => e = .returned (flV s.L[k]) ∧ Gr w' w2) := fun w' => own_any _ w' (by omega)
      have HT : Hid ((s.L.take (k + 1)).flatMap flf = (s.L.take k).flatMap flf ++ flf s.L[k]) := by show _ = _; rw [List.take_succ_eq_append_getElem hlt, fl_snoc]; simp
      subst hade
      clear hd hfo hxc
      generalize s.L[k] = f at *
      obtain ⟨fn, fd, fy⟩ := f
      obtain ⟨va, vc, rfl⟩ := own_slice HOw.out
      simp only at *
      go_wp2_with fail
      refine (HCl.out _).mono ?_
      rintro e w2 ⟨rfl, hg2⟩
      have HG2 := Lib.hid (HG.out.trans hg2)
      have HOw2 := Lib.hid (row_gr HOw.out (hg2.alloc (o := .cells #[.int .i64 fn, .string fd, .int .i64 fy] 68)))
      have HNw := Lib.hid (fl_new w2 ⟨fn, fd, fy⟩)
      have hsz1 := HG2.out.size
      clear hlook hmp hnum hg2
      go_wp2_with (first
        | (at_builtin; refine wpList_append_own _ rfl _ _ 46 rfl w1.heap.size 68 i0 (.agg #[.int .i64 0, .string ⟨#[]⟩, .int .i64 0]) 3 32 Tryd.underlying46 hi0 hz0 hz1 hz2 rfl (by decide) _ _ _ rfl HOw2.out ⟨w2.heap.size, 0, none⟩ 1 1 ([(⟨fn, fd, fy⟩ : Fl)].flatMap flf) rfl rfl HNw.out (flf_one _) (by unfold maxLen; omega) (by omega) (by simp; omega) ?_)
        | fail)
      intro v' w3 hown' hgrow _
      rw [← HT.out] at hown'
      have HGF := Lib.hid (own_gr HOw2.out HG2.out.alloc hgrow (Nat.le_refl _))
      have HOF := Lib.hid hown'
      clear hown' hgrow
      go_wp2
      go_roundw
      case rel => exact ⟨k + 1, by omega, by simp, HOF.out, HGF.out⟩
      case measure => simp [intOf]; omega
    · obtain rfl : k = s.L.length := by omega
      have hown := HOw.out
      rw [List.take_length] at hown
      obtain ⟨va, vc, rfl, hvc, _, hrow, hb, _⟩ := own_row hown
      have HR : Hid (ImQ w wr s.L (.returned (.slice va s.L.length vc))) := ⟨va, vc, rfl, hrow, fun a e => Nat.le_trans HG1.out.size (hb a e), HG1.out.trans HG.out, hvc⟩
      clear hown hrow hb hvc
      go_wp2
      go_ret
      exact HR.out
theorem image_any (h : DAt w b m A s) : Calls Tryd.prog 13 #[ptr b] w fun e w' => ImR w w' s.L e := by
  refine (image_cap h).mono ?_
  rintro e w' ⟨ad, cap, h1, h2, h3, h4, _⟩
  exact ⟨ad, cap, h1, h2, h3, h4⟩
end Go.Proofs.YtojmhhmpmpbpfaaDoor
namespace Go.Proofs.YtojmhhmpmpbpfaaDoor
open Go.RowKit Go.Maps
open Dk (Fl Fo St Ok Up zf emp used cutF fallA kf)
variable {w w' : World} {b m : Nat} {A : Nat → Int} {s : St}

def okF (lo room : Int) (f : Fl) : Bool := decide (lo ≤ f.n ∧ f.n ≤ 1000000) && decide (1 ≤ (f.d.size : Int) ∧ (f.d.size : Int) ≤ room) && decide (0 ≤ f.y ∧ f.y ≤ (f.d.size : Int))
def mayA : Int → Int → List Fl → Bool
  | _, _, [] => true
  | lo, room, f :: r => okF lo room f && mayA (f.n + 1) (room - f.d.size) r
def mayL (room : Int) (l : List Fl) : Bool := decide (0 ≤ room ∧ room ≤ 200000) && decide (l.length ≤ 8) && mayA 0 room l
theorem mayA_drop {lo room : Int} {l : List Fl} {k : Nat} (h : k < l.length) : mayA lo room (l.drop k) = (okF lo room l[k] && mayA (l[k].n + 1) (room - l[k].d.size) (l.drop (k + 1))) := by
  rw [List.drop_eq_getElem_cons h]
  rfl
theorem mayA_in : ∀ (l : List Fl) {lo room : Int}, 0 ≤ lo → mayA lo room l = true → Up l ∧ (∀ f ∈ l, Fo f ∧ lo ≤ f.n) ∧ (l = [] ∨ (used l : Int) ≤ room)
  | [], _, _, _, _ => ⟨List.Pairwise.nil, fun f hf => by (cases hf), Or.inl rfl⟩
  | f :: r, lo, room, h0, h => by
    simp only [mayA, Bool.and_eq_true] at h
    obtain ⟨h1, h2⟩ := h
    simp only [okF, Bool.and_eq_true, decide_eq_true_eq] at h1
    obtain ⟨⟨⟨a1, a2⟩, a3, a4⟩, a5, a6⟩ := h1
    obtain ⟨q1, q2, q3⟩ := mayA_in r (by omega) h2
    have hu : used (f :: r) = f.d.size + used r := by simp [used]
    refine ⟨List.pairwise_cons.2 ⟨fun g hg => by have := (q2 g hg).2; omega, q1⟩, fun g hg => ?_, Or.inr ?_⟩
    · rcases List.mem_cons.1 hg with rfl | hg
      · exact ⟨⟨by omega, a2, by omega, a5, a6⟩, a1⟩
      · exact ⟨(q2 g hg).1, by have := (q2 g hg).2; omega⟩
    · rw [hu]
      rcases q3 with rfl | q3
      · simp [used]; omega
      · omega
theorem mayL_ok {room : Int} {l : List Fl} (h : mayL room l = true) : Ok (Dk.new room l) := by
  simp only [mayL, Bool.and_eq_true, decide_eq_true_eq] at h
  obtain ⟨⟨⟨h1, h2⟩, h3⟩, h4⟩ := h
  obtain ⟨q1, q2, q3⟩ := mayA_in l (Int.le_refl 0) h4
  refine ⟨q1, fun f hf => (q2 f hf).1, h3, ?_, h2, Int.le_refl _, by simp [Dk.new]⟩
  rcases q3 with rfl | q3
  · simpa [Dk.new, used] using h1
  · exact q3
theorem ok_take {room : Int} {l : List Fl} (h : Ok (Dk.new room l)) (k : Nat) : Ok (Dk.new room (l.take k)) := by
  have hs : (l.take k).Sublist l := List.take_sublist k l
  have hu : used (l.take k) ≤ used l := by
    have : used (l.take k) + used (l.drop k) = used l := by
      have e : used (l.take k ++ l.drop k) = used (l.take k) + used (l.drop k) := by
        unfold used; rw [List.map_append, List.sum_append]
      rw [← e, List.take_append_drop]
    omega
  have h1 := h.len
  have h2 := h.fits
  simp only [Dk.new] at h1 h2
  refine ⟨h.up.sublist hs, fun f hf => h.fo f (hs.subset hf), ?_, ?_, h.r1, h.l0, h.l1⟩
  · show (l.take k).length ≤ 8
    rw [List.length_take]; omega
  · show (used (l.take k) : Int) ≤ room
    omega
set_option maxHeartbeats 8000000 in
set_option maxRecDepth 100000 in
theorem mayBe_any (room : Int) (l : List Fl) (ad : Option Addr) (cap : Nat) (w : World) (hL : RowAt flf w ad l) (hn : l.length ≤ 9223372036854775807) (hd : ∀ f ∈ l, f.d.size ≤ 9223372036854775807) (hr1 : room ≤ 9223372036854775807) :
    Calls Tryd.prog 48 #[.int .i64 room, .slice ad l.length cap] w fun e w' => e = .returned (.bool (mayL room l)) ∧ Gr w w' := by
  have HW : Hid (∀ (n a c : Int) (w' : World), Calls Tryd.prog 59 #[.int .i64 n, .int .i64 a, .int .i64 c] w' fun e w2 => e = .returned (.bool (decide (a ≤ n ∧ n ≤ c))) ∧ w2 = w') := fun n a c w' => within_any n a c w'
  unfold mayL
  by_cases h1 : 0 ≤ room ∧ room ≤ 200000
  · rw [decide_eq_true h1]
    have d1 : decide (0 ≤ room ∧ room ≤ 200000) = true := decide_eq_true h1
    by_cases h2 : l.length ≤ 8
    · rw [decide_eq_true h2]
      have d2 : decide ((8 : Int) < (l.length : Int)) = false := decide_eq_false (by omega)
      simp only [Bool.true_and]
      have HL := Lib.hid hL
      clear hL hn
      go_enter Tryd.func48, Tryd.ntmps48
      go_wp2_with (go_at_call 59; refine (HW.out _ _ _ _).mono ?_; rintro e w' ⟨rfl, hw⟩; obtain rfl := hw.symm; clear hw; rw [d1])
      go_loopw [19, 5, 0] (fun i lo rm wr => ∃ (k : Nat) (a c : Int), k ≤ l.length ∧ i = .int .i64 (k : Int) ∧ lo = .int .i64 a ∧ rm = .int .i64 c ∧ 0 ≤ a ∧ a ≤ 1000001 ∧ 0 ≤ c ∧ c ≤ 200000 ∧ mayA 0 room l = mayA a c (l.drop k) ∧ Gr w wr) (fun i _ _ _ => l.length - (intOf i).toNat)
      case atStart => exact ⟨0, 0, room, Nat.zero_le _, rfl, rfl, rfl, by omega, by omega, by omega, by omega, rfl, Gr.refl w⟩
      case round =>
        obtain ⟨k, a, c, hk, rfl, rfl, rfl, ha0, ha1, hc0, hc1, hm, hg⟩ := hrel
        have HG := Lib.hid hg
        by_cases hlt : k < l.length
        · obtain ⟨x, off, hade, hxb, c0, c1, c2⟩ := fl_at HL.out k hlt
          have c0 := hg.keep c0
          have c1 := hg.keep c1
          have c2 := hg.keep c2
          have hxb2 : x < wr.heap.size := Nat.lt_of_lt_of_le hxb hg.size
          have hds := hd _ (List.getElem_mem hlt)
          rw [mayA_drop hlt] at hm
          have HM := Lib.hid hm
          subst hade
          clear hg hm hd
          generalize l[k] = f at *
          obtain ⟨fn, fd, fy⟩ := f
          simp only at *
          by_cases p1 : a ≤ fn ∧ fn ≤ 1000000
          · have q1 : decide (a ≤ fn ∧ fn ≤ 1000000) = true := decide_eq_true p1
            by_cases p2 : 1 ≤ (fd.size : Int) ∧ (fd.size : Int) ≤ c
            · have q2 : decide (1 ≤ (fd.size : Int) ∧ (fd.size : Int) ≤ c) = true := decide_eq_true p2
              by_cases p3 : 0 ≤ fy ∧ fy ≤ (fd.size : Int)
              · have q3 : decide (0 ≤ fy ∧ fy ≤ (fd.size : Int)) = true := decide_eq_true p3
                have HM2 : Hid (mayA 0 room l = mayA (fn + 1) (c - fd.size) (l.drop (k + 1))) := by
                  have := HM.out
                  simp only [okF, q1, q2, q3, Bool.true_and] at this
                  exact this
                clear HM
                go_wp2_with (go_at_call 59; refine (HW.out _ _ _ _).mono ?_; rintro e w' ⟨rfl, hw⟩; obtain rfl := hw.symm; clear hw; first | rw [q1] | rw [q2] | rw [q3])
                go_roundw
                case rel => exact ⟨k + 1, fn + 1, c - fd.size, by omega, by simp, rfl, rfl, by omega, by omega, by omega, by omega, HM2.out, HG.out.alloc⟩
                case measure => simp [intOf]; omega
              · have q3 : decide (0 ≤ fy ∧ fy ≤ (fd.size : Int)) = false := decide_eq_false p3
                have HM2 : Hid (mayA 0 room l = false) := by
                  have := HM.out
                  simp only [okF, q3, Bool.and_false, Bool.false_and] at this
                  exact this
                clear HM
                go_wp2_with (go_at_call 59; refine (HW.out _ _ _ _).mono ?_; rintro e w' ⟨rfl, hw⟩; obtain rfl := hw.symm; clear hw; first | rw [q1] | rw [q2] | rw [q3])
                go_ret
                exact ⟨by rw [HM2.out]; rfl, HG.out.alloc⟩
            · have q2 : decide (1 ≤ (fd.size : Int) ∧ (fd.size : Int) ≤ c) = false := decide_eq_false p2
              have HM2 : Hid (mayA 0 room l = false) := by
                have := HM.out
                simp only [okF, q2, Bool.and_false, Bool.false_and] at this
                exact this
              clear HM
              go_wp2_with (go_at_call 59; refine (HW.out _ _ _ _).mono ?_; rintro e w' ⟨rfl, hw⟩; obtain rfl := hw.symm; clear hw; first | rw [q1] | rw [q2])
              go_ret
              exact ⟨by rw [HM2.out]; rfl, HG.out.alloc⟩
          · have q1 : decide (a ≤ fn ∧ fn ≤ 1000000) = false := decide_eq_false p1
            have HM2 : Hid (mayA 0 room l = false) := by
              have := HM.out
              simp only [okF, q1, Bool.false_and] at this
              exact this
            clear HM
            go_wp2_with (go_at_call 59; refine (HW.out _ _ _ _).mono ?_; rintro e w' ⟨rfl, hw⟩; obtain rfl := hw.symm; clear hw; first | rw [q1])
            go_ret
            exact ⟨by rw [HM2.out]; rfl, HG.out.alloc⟩
        · obtain rfl : k = l.length := by omega
          rw [List.drop_length] at hm
          have HM2 : Hid (mayA 0 room l = true) := hm
          clear hm hg
          go_wp2
          go_ret
          exact ⟨by rw [HM2.out]; rfl, HG.out⟩
    · rw [decide_eq_false h2]
      have d2 : decide ((8 : Int) < (l.length : Int)) = true := decide_eq_true (by omega)
      simp only [Bool.and_false, Bool.false_and]
      clear hL hd
      go_enter Tryd.func48, Tryd.ntmps48
      go_wp2_with (go_at_call 59; refine (HW.out _ _ _ _).mono ?_; rintro e w' ⟨rfl, hw⟩; obtain rfl := hw.symm; clear hw; rw [d1])
      go_ret
      exact ⟨rfl, Gr.refl w⟩
  · rw [decide_eq_false h1]
    have d1 : decide (0 ≤ room ∧ room ≤ 200000) = false := decide_eq_false h1
    simp only [Bool.false_and]
    clear hL hd
    go_enter Tryd.func48, Tryd.ntmps48
    go_wp2_with (go_at_call 59; refine (HW.out _ _ _ _).mono ?_; rintro e w' ⟨rfl, hw⟩; obtain rfl := hw.symm; clear hw; rw [d1])
    go_ret
    exact ⟨rfl, Gr.refl w⟩
end Go.Proofs.YtojmhhmpmpbpfaaDoor
