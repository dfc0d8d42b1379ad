/- Parts of these proofs, laid together. -/
import Derived.Test.YthaadiclopoamaaGreatDoorGM
import Derived.Test.YthaadiclopoamaaGreatDoorGF
import Derived.Test.YthaadiclopoamaaGreatDoorGJ
import Derived.Test.YthaadiclopoamaaGreatDoorGC
import Derived.Lib.ItoaNum
import Derived.Test.YthaadiclopoamaaGreatDoorGA
/- def: Text. -/
set_option maxRecDepth 100000
set_option maxHeartbeats 8000000
namespace Go.Proofs.YthaadiclopoamaaGreatDoor
open Go.RowKit
open Lex (Tok ckE scT scF scA)
open Df (Stp St tk Gd prs pE pA pT pN pL)

/- the answers of Text -/
def tE (l : List UInt8) : Int := if scF l ≠ 0 then scF l else if pE (scT l) 0 ≠ 0 then pE (scT l) 0 else if (tk (scT l) (pT (scT l) 0).toNat).k ≠ 0 then 81 else 0
def tA (l : List UInt8) : Int := if scF l ≠ 0 then scA l else if pE (scT l) 0 ≠ 0 then pA (scT l) 0 else if (tk (scT l) (pT (scT l) 0).toNat).k ≠ 0 then (tk (scT l) (pT (scT l) 0).toNat).p else 0
def tN (l : List UInt8) : ByteArray := if tE l = 0 then pN (scT l) 0 else ⟨#[]⟩
def tL (l : List UInt8) : List Stp := if tE l = 0 then pL (scT l) 0 else []
def TxR (w : World) (nm : ByteArray) (L : List Stp) (e p : Int) (en : Ending) (w' : World) : Prop :=
 ∃ a c, en = .returned (.tuple #[.agg #[.string nm, .slice a L.length c], .agg #[.int .i64 e, .int .i64 p]]) /\ StpsAt w' a L /\ L.length <= c /\ (∀ x, a = some x -> w.heap.size <= x.block) /\ Gr w w'

theorem scT_size (l : List UInt8) (hl : l.length <= 9223372036854775807) : ∀ x ∈ scT l, x.t.size <= 9223372036854775807 := by
 intro x hx
 unfold Lex.scT at hx
 split at hx
 ·cases hx
 ·split at hx
  ·have := (Lex.tok_rng _ _ _ x hx).2; omega
  ·cases hx
theorem pT_lt {T : List Tok} (h80 : ckE T ≠ 80) (h0 : pE T 0 = 0) : (pT T 0).toNat < T.length /\ 0 <= pT T 0 := by
 unfold Df.pT
 rw [if_pos h0, Int.toNat_natCast]
 have hat : (0 : Int) <= 0 /\ (0 : Int) < T.length := by
  unfold Df.pE at h0
  rw [if_neg h80] at h0
  split at h0
  ·assumption
  ·cases h0
 exact ⟨(Df.def_same (Df.gd_of h80) (0 : Int).toNat (by simp; omega)).2.2, by omega⟩
theorem ck_scan {l : List UInt8} (h0 : scF l = 0) : ckE (scT l) ≠ 80 := by
 unfold Lex.scF at h0
 unfold Lex.scT
 split at h0
 ·cases h0
 ·rename_i hn
  split at h0
  ·rename_i hs
   rw [if_neg hn, hs]
   exact Lex.okays_S l hs
  ·cases h0

theorem dText_any (s : ByteArray) (w : World) (hsz : s.size <= 9223372036854775807) : Calls Tryz.prog 96 #[.string s] w fun e w' => TxR w (tN s.data.toList) (tL s.data.toList) (tE s.data.toList) (tA s.data.toList) e w' := by
 have hl : s.data.toList.length = s.size := by simp
 have HS : Hid (∀ w' : World, Calls Tryz.prog 115 #[.string s] w' fun e w2 => ∃ ad cap, e = .returned (.tuple #[.slice ad (scT s.data.toList).length cap, .agg #[.int .i64 (scF s.data.toList), .int .i64 (scA s.data.toList)]]) /\ (scT s.data.toList).length <= cap /\ ToksAt w2 ad (scT s.data.toList) /\ (∀ a, ad = some a -> w'.heap.size <= a.block) /\ Gr w' w2) := fun w' => Scan_any s w'
 have HP : Hid (∀ (ad : Option Addr) (cap : Nat) (w' : World), ToksAt w' ad (scT s.data.toList) -> (scT s.data.toList).length <= cap -> Calls Tryz.prog 116 #[.slice ad (scT s.data.toList).length cap, .int .i64 0] w' fun e w2 => PaR w' (pN (scT s.data.toList) 0) (pL (scT s.data.toList) 0) (pT (scT s.data.toList) 0) (pE (scT s.data.toList) 0) (pA (scT s.data.toList) 0) e w2) := fun ad cap w' h hc => dParse_any _ ad cap 0 w' h hc (by have := Lex.scT_len s.data.toList; omega) (scT_size _ (by omega))
 have HTE : Hid (tE s.data.toList = if scF s.data.toList ≠ 0 then scF s.data.toList else if pE (scT s.data.toList) 0 ≠ 0 then pE (scT s.data.toList) 0 else if (tk (scT s.data.toList) (pT (scT s.data.toList) 0).toNat).k ≠ 0 then 81 else 0) := rfl
 have HTA : Hid (tA s.data.toList = if scF s.data.toList ≠ 0 then scA s.data.toList else if pE (scT s.data.toList) 0 ≠ 0 then pA (scT s.data.toList) 0 else if (tk (scT s.data.toList) (pT (scT s.data.toList) 0).toNat).k ≠ 0 then (tk (scT s.data.toList) (pT (scT s.data.toList) 0).toNat).p else 0) := rfl
 have HTN : Hid (tN s.data.toList = if tE s.data.toList = 0 then pN (scT s.data.toList) 0 else ⟨#[]⟩) := rfl
 have HTL : Hid (tL s.data.toList = if tE s.data.toList = 0 then pL (scT s.data.toList) 0 else []) := rfl
 have HPT : Hid (scF s.data.toList = 0 -> pE (scT s.data.toList) 0 = 0 -> (pT (scT s.data.toList) 0).toNat < (scT s.data.toList).length /\ 0 <= pT (scT s.data.toList) 0) := fun h1 h2 => pT_lt (ck_scan h1) h2
 have HA0 := Lib.hid (TwoAt.new w (.string ⟨#[]⟩) (.slice none 0 0) 27 _ rfl)
 have HB0 := Lib.hid (TwoAt.new (w.alloc (.cells #[.string ⟨#[]⟩, .slice none 0 0] 27)) (.int .i64 0) (.int .i64 0) 136 (w.heap.size + 1) (by simp))
 clear hsz hl
 generalize tN s.data.toList = TN at *
 generalize tL s.data.toList = TL at *
 generalize tE s.data.toList = TE at *
 generalize tA s.data.toList = TA at *
 generalize scT s.data.toList = T at *
 generalize scF s.data.toList = SF at *
 generalize scA s.data.toList = SA at *
 generalize pN T 0 = PN at *
 generalize pL T 0 = PL at *
 generalize pE T 0 = PE at *
 generalize pA T 0 = PA at *
 generalize pT T 0 = PT at *
 go_enter Tryz.func96, Tryz.ntmps96
 go_wp2_with fail
 refine (HS.out _).mono ?_
 rintro e w1 ⟨ad, cap, rfl, hcp, htk, hfr, hg⟩
 have HG1 : Hid (Gr w w1) := (Gr.refl _).alloc.alloc.trans hg
 have HA1 := Lib.hid ((HA0.out.gr (Gr.refl _).alloc).gr hg)
 have HB1 := Lib.hid (HB0.out.gr hg)
 have HK1 := Lib.hid htk
 have HC1 := Lib.hid hcp
 have HF1 := Lib.hid (TwoAt.new w1 (.int .i64 SF) (.int .i64 SA) 136 _ rfl)
 clear hcp htk hfr hg HA0 HB0
 have n1 : ¬ w1.heap.size = w.heap.size := by have := HB1.out.lt; omega
 have n2 : ¬ w.heap.size = w1.heap.size := by have := HB1.out.lt; omega
 have n3 : ¬ w1.heap.size = w.heap.size + 1 := by have := HB1.out.lt; omega
 have n4 : ¬ w.heap.size + 1 = w1.heap.size := by have := HB1.out.lt; omega
 by_cases h1 : SF = 0
 ·subst h1
  go_wp2_with fail
  refine (HP.out ad cap _ (HK1.out.gr (Gr.refl _).alloc) HC1.out).mono ?_
  rintro e w2 ⟨a, c, rfl, hst, hlc, hfr, hg⟩
  have HG2 : Hid (Gr w w2) := HG1.out.alloc.trans hg
  obtain ⟨a0, a1, af0, af1, al⟩ := (HA1.out.gr (Gr.refl _).alloc).gr hg
  obtain ⟨b0, b1, bf0, bf1, bl⟩ := (HB1.out.gr (Gr.refl _).alloc).gr hg
  obtain ⟨f0, f1, ff0, ff1, fl⟩ := HF1.out.gr hg
  have HS2 := Lib.hid hst
  have HE2 : Hid (PL.length <= c /\ ∀ x, a = some x -> w1.heap.size + 1 <= x.block) := ⟨hlc, fun x e => by have := hfr x e; simpa using this⟩
  have HN1 : Hid (w.heap.size + 1 < w1.heap.size) := HB1.out.lt
  have HK2 := Lib.hid ((HK1.out.gr (Gr.refl _).alloc).gr hg)
  have hn1 := HN1.out
  have m1 : ¬ w2.heap.size = w.heap.size := by omega
  have m2 : ¬ w.heap.size = w2.heap.size := by omega
  have m3 : ¬ w2.heap.size = w.heap.size + 1 := by omega
  have m4 : ¬ w.heap.size + 1 = w2.heap.size := by omega
  have m5 : ¬ w2.heap.size = w1.heap.size := by omega
  have m6 : ¬ w1.heap.size = w2.heap.size := by omega
  clear hst hlc hfr hg hn1
  by_cases h2 : PE = 0
  ·subst h2
   obtain ⟨p1, p2⟩ := HPT.out (by first | rfl | trivial) (by first | rfl | trivial)
   obtain ⟨j, hj⟩ : ∃ j : Nat, PT = (j : Int) := ⟨PT.toNat, by omega⟩
   subst hj
   rw [Int.toNat_natCast] at p1 HTE HTA
   obtain ⟨tb, off, rfl, htb, _, _, _⟩ := HK1.out j p1
   obtain ⟨tb', off', e, htb2, t0, t1, t2⟩ := HK2.out j p1
   cases e
   rw [<- Df.tk_get T j p1] at t0 t1 t2
   generalize tk T j = x at *
   obtain ⟨xk, xt, xp⟩ := x
   simp only at *
   have nt : ¬ w1.heap.size = tb := by omega
   have nt' : ¬ tb = w1.heap.size := by omega
   have nt2 : ¬ w2.heap.size = tb := by omega
   have nt3 : ¬ tb = w2.heap.size := by omega
   by_cases h3 : xk = 0
   ·subst h3
    have HV : Hid (TE = 0 /\ TA = 0 /\ TN = PN /\ TL = PL) := by
     have q1 : TE = 0 := by rw [HTE.out, if_neg (by simp), if_neg (by simp), if_neg (by simp)]
     refine ⟨q1, ?_, ?_, ?_⟩
     ·rw [HTA.out, if_neg (by simp), if_neg (by simp), if_neg (by simp)]
     ·rw [HTN.out, if_pos q1]
     ·rw [HTL.out, if_pos q1]
    clear HTE HTA HTN HTL
    go_wp2
    refine bodyPost_ret (v := .tuple #[.agg #[.string PN, .slice a PL.length c], .agg #[.int .i64 0, .int .i64 0]]) (by simp [results, Tryz.results96, go_sem, *]) rfl ?_
    rw [HV.out.1, HV.out.2.1, HV.out.2.2.1, HV.out.2.2.2]
    have hg2 := HG2.out
    have hn1 := HN1.out
    refine ⟨a, c, rfl, ?_, HE2.out.1, fun x e => by have := HE2.out.2 x e; omega, (by (with_reducible repeat' (first | exact Gr.refl _ | refine Gr.set ?_ _ ?_ _ | refine Gr.alloc ?_ | refine Gr.drew ?_ | refine Gr.trans ?_ (by assumption))) <;> (first | (simp; done) | (simp; omega) | omega))⟩
    repeat (first | with_reducible exact HS2.out | with_reducible refine RowAt.setFar ?_ _ _ (fun x e => by have := HE2.out.2 x e; simp; omega) | with_reducible refine RowAt.drew ?_ | with_reducible refine RowAt.alloc ?_ | with_reducible refine RowAt.gr ?_ ((Gr.refl _).drewN _))
   ·have e3 : (xk != 0) = true := by simpa using h3
    have HV : Hid (TE = 81 /\ TA = xp /\ TN = ⟨#[]⟩ /\ TL = []) := by
     have q1 : TE = 81 := by rw [HTE.out, if_neg (by simp), if_neg (by simp), if_pos h3]
     refine ⟨q1, ?_, ?_, ?_⟩
     ·rw [HTA.out, if_neg (by simp), if_neg (by simp), if_pos h3]
     ·rw [HTN.out, if_neg (by rw [q1]; decide)]
     ·rw [HTL.out, if_neg (by rw [q1]; decide)]
    clear h3 HTE HTA HTN HTL
    go_wp2
    go_region
    go_wp2
    refine bodyPost_ret (v := .tuple #[.agg #[.string ⟨#[]⟩, .slice none 0 0], .agg #[.int .i64 81, .int .i64 xp]]) (by simp [results, Tryz.results96, go_sem, *]) rfl ?_
    rw [HV.out.1, HV.out.2.1, HV.out.2.2.1, HV.out.2.2.2]
    have hg2 := HG2.out
    have hn1 := HN1.out
    exact ⟨none, 0, rfl, RowAt.nil, by simp, (fun x e => by cases e), (by (with_reducible repeat' (first | exact Gr.refl _ | refine Gr.set ?_ _ ?_ _ | refine Gr.alloc ?_ | refine Gr.drew ?_ | refine Gr.trans ?_ (by assumption))) <;> (first | (simp; done) | (simp; omega) | omega))⟩
  ·have e2 : (PE != 0) = true := by simpa using h2
   have HV : Hid (TE = PE /\ TA = PA /\ TN = ⟨#[]⟩ /\ TL = []) := by
    have q1 : TE = PE := by rw [HTE.out, if_neg (by simp), if_pos h2]
    refine ⟨q1, ?_, ?_, ?_⟩
    ·rw [HTA.out, if_neg (by simp), if_pos h2]
    ·rw [HTN.out, if_neg (by rw [q1]; exact h2)]
    ·rw [HTL.out, if_neg (by rw [q1]; exact h2)]
   clear h2 HTE HTA HTN HTL
   go_wp2
   go_region
   go_wp2
   refine bodyPost_ret (v := .tuple #[.agg #[.string ⟨#[]⟩, .slice none 0 0], .agg #[.int .i64 PE, .int .i64 PA]]) (by simp [results, Tryz.results96, go_sem, *]) rfl ?_
   rw [HV.out.1, HV.out.2.1, HV.out.2.2.1, HV.out.2.2.2]
   have hg2 := HG2.out
   have hn1 := HN1.out
   exact ⟨none, 0, rfl, RowAt.nil, by simp, (fun x e => by cases e), (by (with_reducible repeat' (first | exact Gr.refl _ | refine Gr.set ?_ _ ?_ _ | refine Gr.alloc ?_ | refine Gr.drew ?_ | refine Gr.trans ?_ (by assumption))) <;> (first | (simp; done) | (simp; omega) | omega))⟩
 ·have e1 : (SF != 0) = true := by simpa using h1
  have HV : Hid (TE = SF /\ TA = SA /\ TN = ⟨#[]⟩ /\ TL = []) := by
   have q1 : TE = SF := by rw [HTE.out, if_pos h1]
   refine ⟨q1, ?_, ?_, ?_⟩
   ·rw [HTA.out, if_pos h1]
   ·rw [HTN.out, if_neg (by rw [q1]; exact h1)]
   ·rw [HTL.out, if_neg (by rw [q1]; exact h1)]
  clear h1 HTE HTA HTN HTL
  obtain ⟨a0, a1, af0, af1, al⟩ := HA1.out
  obtain ⟨b0, b1, bf0, bf1, bl⟩ := HB1.out
  go_wp2
  go_region
  go_wp2
  refine bodyPost_ret (v := .tuple #[.agg #[.string ⟨#[]⟩, .slice none 0 0], .agg #[.int .i64 SF, .int .i64 SA]]) (by simp [results, Tryz.results96, go_sem, *]) rfl ?_
  rw [HV.out.1, HV.out.2.1, HV.out.2.2.1, HV.out.2.2.2]
  have hg1 := HG1.out
  exact ⟨none, 0, rfl, RowAt.nil, by simp, (fun x e => by cases e), (by (with_reducible repeat' (first | exact Gr.refl _ | refine Gr.set ?_ _ ?_ _ | refine Gr.alloc ?_ | refine Gr.drew ?_ | refine Gr.trans ?_ (by assumption))) <;> (first | (simp; done) | (simp; omega) | omega))⟩
end Go.Proofs.YthaadiclopoamaaGreatDoor
/- Plain mathematics of definitions' texts: what is written is read. -/
set_option maxRecDepth 100000
set_option maxHeartbeats 8000000
namespace Go.Proofs.YthaadiclopoamaaGreatDoor
open Df (Stp St tk isT ownB askB stpB defB chE wk kw sm opt fin one stps prs Gd)
open Lex (Tok S mayB numB sigB vl valE okT endT gap butL scT scF scA ckE)
open _root_.Go.Proofs.YthaadiclopoamaaGreatDoor.Act (nameB actB digB letB sgnB)

def dg (n : Int) : ByteArray := ⟨(Lib.decDigits n.toNat).toArray⟩
def stW (s : Stp) : List ByteArray := if askB s = true then [Df.wAsk, dg s.o, s.u, Df.wWait, dg s.v] else [wk s.k, s.a, dg s.n, Df.wTries, dg s.y]
def ln (xs : List ByteArray) : List UInt8 := match xs with
 | [a, b, c, d, e] => 32 :: 32 :: (a.data.toList ++ 32 :: (b.data.toList ++ 32 :: (c.data.toList ++ 32 :: (d.data.toList ++ 32 :: (e.data.toList ++ [59, 10])))))
 | _ => []
def stT (s : Stp) : List UInt8 := ln (stW s)
def shH (nm : ByteArray) : List UInt8 := 115 :: 97 :: 103 :: 97 :: 32 :: (nm.data.toList ++ [32, 123, 10])
def shT (nm : ByteArray) (L : List Stp) : List UInt8 := shH nm ++ (L.flatMap stT ++ [125, 10])

/- decimal digits -/
theorem of48 (m : Nat) (h : m < 10) : (UInt8.ofNat (48 + m)).toNat = 48 + m := by simp; omega
theorem digs_all (n : Nat) : ∀ b ∈ Lib.decDigits n, digB b = true := by
 induction n using Nat.strongRecOn with
 | _ n ih =>
  intro b hb
  have one : ∀ m, m < 10 -> digB (UInt8.ofNat (48 + m)) = true := by
   intro m hm
   unfold Act.digB
   rw [of48 m hm]
   simp; omega
  rw [Lib.decDigits] at hb
  split at hb
  ·rename_i h
   rw [List.mem_singleton] at hb
   rw [hb]; exact one n h
  ·rcases List.mem_append.1 hb with hb | hb
   ·exact ih (n / 10) (by omega) b hb
   ·rw [List.mem_singleton] at hb
    rw [hb]; exact one (n % 10) (by omega)
theorem digs_pos (n : Nat) : 1 <= (Lib.decDigits n).length := by
 rw [Lib.decDigits]
 split <;> simp
theorem digs_head (n : Nat) (h1 : 1 <= n) : Lex.zeroB (Lib.decDigits n) = false := by
 induction n using Nat.strongRecOn with
 | _ n ih =>
  rw [Lib.decDigits]
  split
  ·rename_i h
   show decide (((UInt8.ofNat (48 + n)).toNat : Int) = 48) = false
   rw [of48 n h]
   simp; omega
  ·rename_i h
   have := ih (n / 10) (by omega) (by omega)
   have hp := digs_pos (n / 10)
   cases hc : Lib.decDigits (n / 10) with
   | nil => rw [hc] at hp; simp at hp
   | cons b t => rw [hc] at this; exact this
theorem digs_vl (n : Nat) : vl (Lib.decDigits n) 0 = n := by
 induction n using Nat.strongRecOn with
 | _ n ih =>
  rw [Lib.decDigits]
  split
  ·rename_i h
   show vl [] _ = _
   simp only [Lex.vl]
   rw [of48 n h]
   omega
  ·rename_i h
   rw [Lex.vl_snoc, ih (n / 10) (by omega), of48 (n % 10) (by omega)]
   omega
theorem dg_list (n : Int) : (dg n).data.toList = Lib.decDigits n.toNat := by simp [dg]
theorem dg_size (n : Int) (k : Nat) (h : n.toNat < 10 ^ (k + 1)) : (dg n).size <= k + 1 := by
 have := digs_len n.toNat k h
 have e : (dg n).size = (dg n).data.toList.length := by simp
 rw [e, dg_list]; exact this
theorem dg_num (n : Int) (h : n.toNat < 10 ^ 16) : numB (dg n) = true := by
 have h1 := dg_size n 15 h
 have e : (dg n).size = (dg n).data.toList.length := by simp
 have h2 := digs_pos n.toNat
 unfold Lex.numB
 rw [decide_eq_true (by rw [e, dg_list]; exact h2), decide_eq_true h1, dg_list]
 have h3 : (Lib.decDigits n.toNat).all digB = true := List.all_eq_true.2 (digs_all n.toNat)
 rw [h3]
 by_cases h0 : n.toNat = 0
 ·have : (dg n).size = 1 := by rw [e, dg_list, h0, Lib.decDigits, dif_pos (by omega)]; rfl
  rw [decide_eq_true this]; rfl
 ·rw [digs_head n.toNat (by omega)]; simp
theorem dg_val (n : Int) (h0 : 0 <= n) (h : n.toNat < 10 ^ 16) : valE 2 (dg n) = n := by
 unfold Lex.valE
 rw [if_pos ⟨rfl, dg_num n h⟩, dg_list, digs_vl]
 omega
theorem dg_sm (n : Int) (h0 : 0 <= n) (h : n < 100) : sm (dg n) = n := by
 have h9 := dg_size n 8 (by omega)
 unfold Df.sm
 rw [if_neg (by omega), dg_val n h0 (by omega)]

/- words of a step that may be -/
theorem may1 {s : ByteArray} (h : nameB s = true) : mayB 1 s = true := by unfold Lex.mayB; rw [if_pos rfl]; exact h
theorem may2 {s : ByteArray} (h : numB s = true) : mayB 2 s = true := by unfold Lex.mayB; rw [if_neg (by decide), if_pos rfl]; exact h
theorem wk_name (k : Int) (h1 : 1 <= k) (h2 : k <= 4) : nameB (wk k) = true /\ wk k ≠ Df.wAsk /\ kw (wk k) = k /\ (wk k).size <= 7 := by
 rcases (by omega : k = 1 ∨ k = 2 ∨ k = 3 ∨ k = 4) with rfl | rfl | rfl | rfl <;> exact ⟨by decide, by decide, by decide, by decide⟩
def sTk (s : Stp) : List Tok := if askB s = true then [⟨1, Df.wAsk, 0⟩, ⟨2, dg s.o, 0⟩, ⟨1, s.u, 0⟩, ⟨1, Df.wWait, 0⟩, ⟨2, dg s.v, 0⟩, ⟨3, Df.gSemi, 0⟩] else [⟨1, wk s.k, 0⟩, ⟨1, s.a, 0⟩, ⟨2, dg s.n, 0⟩, ⟨1, Df.wTries, 0⟩, ⟨2, dg s.y, 0⟩, ⟨3, Df.gSemi, 0⟩]
theorem own_of {s : Stp} (h : stpB s = true) (hk : askB s = false) : ownB s = true := by unfold Df.stpB at h; rw [hk] at h; simpa using h

/- a line of five words -/
structure W5 (a b c d e : ByteArray) (k1 k2 k4 : Int) : Prop where
 a : mayB 1 a = true
 b : mayB k1 b = true
 c : mayB k2 c = true
 d : mayB 1 d = true
 e : mayB k4 e = true
theorem cut_one (k : Int) (x : ByteArray) (r : List UInt8) (a : Nat) (h : mayB k x = true) (hr : gap r = true) : S (x.data.toList ++ r) a = (⟨k, x, a⟩ :: (S r (a + x.size)).1, (S r (a + x.size)).2) := by
 obtain ⟨b, u, h1, h2, h3, h4, h5, h6, h7⟩ := Lex.may_cut k x r h hr
 have hd : (b :: u).drop (Lex.tl (b :: u)) = r := by
  rw [h4, <- h1]
  have hl : x.data.toList.length = x.size := by simp
  rw [<- hl, List.drop_left]
 rw [h1, Lex.S_tok u a h2 h3 (by rw [h5, h6]; exact h7), hd, h5, h6, h4]
theorem gap32 (r : List UInt8) : gap (32 :: r) = true := by simp [Lex.gap]; decide
theorem gap10 (r : List UInt8) : gap (10 :: r) = true := by simp [Lex.gap]; decide
theorem gap59 (r : List UInt8) : gap (59 :: r) = true := by simp [Lex.gap]; decide
theorem cut_line {a b c d e : ByteArray} {k1 k2 k4 : Int} (h : W5 a b c d e k1 k2 k4) (r : List UInt8) (p : Nat) : ∃ (T : List Tok) (p' : Nat), butL T [⟨1, a, 0⟩, ⟨k1, b, 0⟩, ⟨k2, c, 0⟩, ⟨1, d, 0⟩, ⟨k4, e, 0⟩, ⟨3, Df.gSemi, 0⟩] /\ S (ln [a, b, c, d, e] ++ r) p = (T ++ (S r p').1, (S r p').2) := by
 have e1 : ln [a, b, c, d, e] ++ r = 32 :: 32 :: (a.data.toList ++ 32 :: (b.data.toList ++ 32 :: (c.data.toList ++ 32 :: (d.data.toList ++ 32 :: (e.data.toList ++ (59 :: (10 :: r))))))) := by simp [ln]
 rw [e1, Lex.S_blank _ _ (by decide), Lex.S_blank _ _ (by decide), cut_one 1 a _ _ h.a (gap32 _), Lex.S_blank _ _ (by decide), cut_one k1 b _ _ h.b (gap32 _), Lex.S_blank _ _ (by decide), cut_one k2 c _ _ h.c (gap32 _), Lex.S_blank _ _ (by decide), cut_one 1 d _ _ h.d (gap32 _), Lex.S_blank _ _ (by decide), cut_one k4 e _ _ h.e (gap59 _)]
 have e2 : ∀ q, S (59 :: (10 :: r)) q = (⟨3, Df.gSemi, q⟩ :: (S r (q + 1 + 1)).1, (S r (q + 1 + 1)).2) := by
  intro q
  have := cut_one 3 Df.gSemi (10 :: r) q (by decide) (gap10 _)
  rw [show Df.gSemi.data.toList ++ (10 :: r) = 59 :: (10 :: r) from rfl] at this
  rw [this, Lex.S_blank _ _ (by decide)]; rfl
 rw [e2]
 dsimp only
 refine ⟨[_, _, _, _, _, _], _, ?_, rfl⟩
 exact ⟨⟨rfl, rfl⟩, ⟨rfl, rfl⟩, ⟨rfl, rfl⟩, ⟨rfl, rfl⟩, ⟨rfl, rfl⟩, ⟨rfl, rfl⟩, trivial⟩
theorem cut_step {s : Stp} (h : stpB s = true) (r : List UInt8) (p : Nat) : ∃ (T : List Tok) (p' : Nat), butL T (sTk s) /\ S (stT s ++ r) p = (T ++ (S r p').1, (S r p').2) := by
 unfold sTk stT stW
 cases hk : askB s with
 | true =>
  obtain ⟨n1, _, _, _, _, o1, o2, v1, v2⟩ := (Df.ask_iff s).1 hk
  simp only [if_true]
  exact cut_line ⟨by decide, may2 (dg_num _ (by omega)), may1 n1, by decide, may2 (dg_num _ (by omega))⟩ r p
 | false =>
  obtain ⟨_, ab, _, _, y1, y2⟩ := (Df.own_iff s).1 (own_of h hk)
  obtain ⟨⟨k1, k2⟩, nb, n1, n2⟩ := (Act.act_iff s.k s.a s.n).1 ab
  simp only [Bool.false_eq_true, if_false]
  exact cut_line ⟨may1 (wk_name s.k k1 k2).1, may1 nb, may2 (dg_num _ (by omega)), by decide, may2 (dg_num _ (by omega))⟩ r p
theorem butL_app : ∀ (A B C D : List Tok), butL A B -> butL C D -> butL (A ++ C) (B ++ D) := by
 intro A
 induction A with
 | nil => intro B C D h1 h2; cases B with
  | nil => exact h2
  | cons y u => exact h1.elim
 | cons x t ih => intro B C D h1 h2; cases B with
  | nil => exact h1.elim
  | cons y u => exact ⟨h1.1, ih u C D h1.2 h2⟩
theorem cut_steps : ∀ (L : List Stp) (r : List UInt8) (p : Nat), (∀ s ∈ L, stpB s = true) -> ∃ (T : List Tok) (p' : Nat), butL T (L.flatMap sTk) /\ S (L.flatMap stT ++ r) p = (T ++ (S r p').1, (S r p').2) := by
 intro L
 induction L with
 | nil => intro r p _; exact ⟨[], p, trivial, rfl⟩
 | cons s t ih =>
  intro r p h
  rw [List.flatMap_cons, List.flatMap_cons, List.append_assoc]
  obtain ⟨T1, p1, h1, e1⟩ := cut_step (h s (by simp)) (t.flatMap stT ++ r) p
  obtain ⟨T2, p2, h2, e2⟩ := ih r p1 (fun x hx => h x (by simp [hx]))
  refine ⟨T1 ++ T2, p2, butL_app _ _ _ _ h1 h2, ?_⟩
  rw [e1, e2, List.append_assoc]
def dTk (nm : ByteArray) (L : List Stp) : List Tok := ⟨1, Df.wSaga, 0⟩ :: ⟨1, nm, 0⟩ :: ⟨3, Df.gOpen, 0⟩ :: (L.flatMap sTk ++ [⟨3, Df.gShut, 0⟩, ⟨0, ⟨#[]⟩, 0⟩])
theorem cut_def {nm : ByteArray} {L : List Stp} (hn : nameB nm = true) (hL : ∀ s ∈ L, stpB s = true) : ∃ T : List Tok, butL T (dTk nm L) /\ S (shT nm L) 0 = (T, none) := by
 have e1 : shT nm L = Df.wSaga.data.toList ++ 32 :: (nm.data.toList ++ 32 :: (Df.gOpen.data.toList ++ 10 :: (L.flatMap stT ++ (Df.gShut.data.toList ++ 10 :: [])))) := by
  unfold shT shH Df.wSaga Df.gOpen Df.gShut
  simp
 rw [e1, cut_one 1 Df.wSaga _ _ (by decide) (gap32 _), Lex.S_blank _ _ (by decide), cut_one 1 nm _ _ (may1 hn) (gap32 _), Lex.S_blank _ _ (by decide), cut_one 3 Df.gOpen _ _ (by decide) (gap10 _), Lex.S_blank _ _ (by decide)]
 obtain ⟨T2, p2, h2, e2⟩ := cut_steps L (Df.gShut.data.toList ++ 10 :: []) (0 + Df.wSaga.size + 1 + nm.size + 1 + Df.gOpen.size + 1) hL
 rw [e2, cut_one 3 Df.gShut _ _ (by decide) (gap10 _), Lex.S_blank _ _ (by decide), Lex.S_nil]
 dsimp only
 refine ⟨_, ?_, rfl⟩
 unfold dTk
 refine ⟨⟨rfl, rfl⟩, ⟨rfl, rfl⟩, ⟨rfl, rfl⟩, butL_app _ _ _ _ h2 ?_⟩
 exact ⟨⟨rfl, rfl⟩, ⟨rfl, rfl⟩, trivial⟩
end Go.Proofs.YthaadiclopoamaaGreatDoor
/- Plain mathematics of definitions' texts: what is written is read as it was. -/
set_option maxRecDepth 100000
set_option maxHeartbeats 8000000
namespace Go.Proofs.YthaadiclopoamaaGreatDoor
open Df (Stp St tk isT ownB askB stpB defB chE wk kw sm opt fin one stps prs Gd pE pA pT pN pL)
open Lex (Tok S mayB numB sigB vl valE okT endT gap butL scT scF scA ckE)
open _root_.Go.Proofs.YthaadiclopoamaaGreatDoor.Act (nameB actB digB letB sgnB)

/- places are of no matter -/
theorem tk_but {T U : List Tok} (h : butL T U) (i : Nat) : (tk T i).k = (tk U i).k /\ (tk T i).t = (tk U i).t := by
 have hl := Lex.butL_len T U h
 by_cases hi : i < T.length
 ·rw [Df.tk_get T i hi, Df.tk_get U i (by omega)]
  exact Lex.butL_get T U h i hi (by omega)
 ·rw [Df.tk_out T i (by omega), Df.tk_out U i (by omega)]
  exact ⟨rfl, rfl⟩
theorem isT_but {T U : List Tok} (h : butL T U) (i : Nat) (k : Int) (s : ByteArray) : isT (tk T i) k s = isT (tk U i) k s := by
 unfold Df.isT; rw [(tk_but h i).1, (tk_but h i).2]
theorem opt_but {T U : List Tok} (h : butL T U) (i : Nat) (wd : ByteArray) (n : Int) : opt T i wd n = opt U i wd n := by
 unfold Df.opt; rw [isT_but h, (tk_but h (i + 1)).1, (tk_but h (i + 1)).2]
theorem fin_but {T U : List Tok} (h : butL T U) (x : Nat × Option Int) (f : Int -> Stp) : fin T x f = fin U x f := by
 unfold Df.fin; rw [isT_but h]
theorem one_but {T U : List Tok} (h : butL T U) (i : Nat) : one T i = one U i := by
 unfold Df.one
 rw [isT_but h, (tk_but h i).1, (tk_but h i).2, (tk_but h (i + 1)).1, (tk_but h (i + 1)).2, (tk_but h (i + 2)).1, (tk_but h (i + 2)).2, opt_but h, opt_but h, fin_but h, fin_but h]
theorem stps_but {T U : List Tok} (h : butL T U) : ∀ (f i : Nat) (L : List Stp), stps T f i L = stps U f i L := by
 intro f
 induction f with
 | zero => intro i L; rfl
 | succ f ih =>
  intro i L
  unfold Df.stps
  rw [isT_but h, one_but h]
  split
  ·rfl
  ·rcases one U i with ⟨j, o⟩
   cases o with
   | none => rfl
   | some s => exact ih j (L ++ [s])
theorem prs_but {T U : List Tok} (h : butL T U) (i : Nat) : prs T i = prs U i := by
 unfold Df.prs
 rw [isT_but h, isT_but h, (tk_but h (i + 1)).1, (tk_but h (i + 1)).2, stps_but h, Lex.butL_len T U h]

/- the tokens of a definition are read as it -/
theorem tk_drop (T : List Tok) (i j : Nat) : tk T (i + j) = tk (T.drop i) j := by
 unfold Df.tk
 rw [List.getD_eq_getElem?_getD, List.getD_eq_getElem?_getD, List.getElem?_drop]
theorem one_at {T : List Tok} {i : Nat} {s : Stp} {R : List Tok} (h : stpB s = true) (hd : T.drop i = sTk s ++ R) : one T i = (i + 6, some s) := by
 have g0 : tk T i = tk (sTk s ++ R) 0 := by have := tk_drop T i 0; rw [hd] at this; exact this
 have g : ∀ j, tk T (i + j) = tk (sTk s ++ R) j := fun j => by rw [tk_drop, hd]
 have g1 := g 1
 have g2 := g 2
 have g3 := g 3
 have g4 : tk T (i + 3 + 1) = tk (sTk s ++ R) 4 := g 4
 have g5 : tk T (i + 3 + 2) = tk (sTk s ++ R) 5 := g 5
 unfold sTk at g0 g1 g2 g3 g4 g5
 cases hk : askB s with
 | true =>
  obtain ⟨n1, q1, q2, q3, q4, o1, o2, v1, v2⟩ := (Df.ask_iff s).1 hk
  rw [hk, if_pos rfl] at g0 g1 g2 g3 g4 g5
  have t0 : tk T i = ⟨1, Df.wAsk, 0⟩ := g0
  have t1 : tk T (i + 1) = ⟨2, dg s.o, 0⟩ := g1
  have t2 : tk T (i + 2) = ⟨1, s.u, 0⟩ := g2
  have t3 : tk T (i + 3) = ⟨1, Df.wWait, 0⟩ := g3
  have t4 : tk T (i + 3 + 1) = ⟨2, dg s.v, 0⟩ := g4
  have t5 : tk T (i + 3 + 2) = ⟨3, Df.gSemi, 0⟩ := g5
  have ho : opt T (i + 3) Df.wWait 20 = (i + 3 + 2, some s.v) := by
   unfold Df.opt
   rw [t3, if_pos (by decide), t4, if_pos rfl, dg_sm s.v (by omega) (by omega)]
  unfold Df.one
  rw [t0, if_pos (by decide), t1, if_pos rfl, t2, if_pos rfl, ho]
  unfold Df.fin
  simp only
  rw [t5, if_pos (by decide), dg_sm s.o o1 (by omega)]
  obtain ⟨k, a, n, o, u, y, v⟩ := s
  simp only at q1 q2 q3 q4
  subst q1 q2 q3 q4
  rfl
 | false =>
  obtain ⟨p1, ab, p3, p4, y1, y2⟩ := (Df.own_iff s).1 (own_of h hk)
  obtain ⟨⟨k1, k2⟩, nb, n1, n2⟩ := (Act.act_iff s.k s.a s.n).1 ab
  obtain ⟨w1, w2, w3, _⟩ := wk_name s.k k1 k2
  rw [hk, if_neg (by decide)] at g0 g1 g2 g3 g4 g5
  have t0 : tk T i = ⟨1, wk s.k, 0⟩ := g0
  have t1 : tk T (i + 1) = ⟨1, s.a, 0⟩ := g1
  have t2 : tk T (i + 2) = ⟨2, dg s.n, 0⟩ := g2
  have t3 : tk T (i + 3) = ⟨1, Df.wTries, 0⟩ := g3
  have t4 : tk T (i + 3 + 1) = ⟨2, dg s.y, 0⟩ := g4
  have t5 : tk T (i + 3 + 2) = ⟨3, Df.gSemi, 0⟩ := g5
  have ho : opt T (i + 3) Df.wTries 1 = (i + 3 + 2, some s.y) := by
   unfold Df.opt
   rw [t3, if_pos (by decide), t4, if_pos rfl, dg_sm s.y (by omega) (by omega)]
  have hna : ¬ isT ⟨1, wk s.k, 0⟩ 1 Df.wAsk = true := fun e => w2 ((Df.isT_iff _ _ _).1 e).2
  unfold Df.one
  rw [t0, if_neg hna, t1, if_pos ⟨rfl, by rw [w3]; omega⟩, if_pos rfl, t2, if_pos rfl, ho]
  unfold Df.fin
  simp only
  rw [t5, if_pos (by decide), w3, dg_val s.n (by omega) (by omega)]
  obtain ⟨k, a, n, o, u, y, v⟩ := s
  simp only at p1 p3 p4
  subst p1 p3 p4
  rfl
theorem sTk_len (s : Stp) : (sTk s).length = 6 := by unfold sTk; split <;> rfl
theorem sTk_shut (s : Stp) (R : List Tok) : isT (tk (sTk s ++ R) 0) 3 Df.gShut = false := by
 unfold sTk
 split <;> rfl
theorem stps_at : ∀ (M : List Stp) (T : List Tok) (f i : Nat) (L : List Stp), (∀ s ∈ M, stpB s = true) -> M.length < f -> T.drop i = M.flatMap sTk ++ [⟨3, Df.gShut, 0⟩, ⟨0, ⟨#[]⟩, 0⟩] -> stps T f i L = (i + 6 * M.length + 1, some (L ++ M)) := by
 intro M
 induction M with
 | nil =>
  intro T f i L _ hf hd
  cases f with
  | zero => simp at hf
  | succ f =>
   have g0 : tk T i = ⟨3, Df.gShut, 0⟩ := by have := tk_drop T i 0; rw [hd] at this; exact this
   unfold Df.stps
   rw [g0, if_pos (by decide)]; simp
 | cons s t ih =>
  intro T f i L hM hf hd
  cases f with
  | zero => simp at hf
  | succ f =>
   rw [List.flatMap_cons, List.append_assoc] at hd
   have g0 : tk T i = tk (sTk s ++ (t.flatMap sTk ++ [⟨3, Df.gShut, 0⟩, ⟨0, ⟨#[]⟩, 0⟩])) 0 := by have := tk_drop T i 0; rw [hd] at this; exact this
   unfold Df.stps
   rw [g0, sTk_shut, if_neg (by decide), one_at (hM s (by simp)) hd]
   simp only
   have hd2 : T.drop (i + 6) = t.flatMap sTk ++ [⟨3, Df.gShut, 0⟩, ⟨0, ⟨#[]⟩, 0⟩] := by
    rw [<- List.drop_drop, hd, <- sTk_len s, List.drop_left]
   rw [ih T f (i + 6) (L ++ [s]) (fun x hx => hM x (by simp [hx])) (by simpa using hf) hd2]
   simp only [List.length_cons, List.append_assoc, List.singleton_append, Prod.mk.injEq, and_true]
   omega
theorem dTk_len (nm : ByteArray) (L : List Stp) : (dTk nm L).length = 6 * L.length + 5 := by
 have : (L.flatMap sTk).length = 6 * L.length := by
  induction L with
  | nil => rfl
  | cons s t ih => rw [List.flatMap_cons, List.length_append, ih, sTk_len, List.length_cons]; omega
 unfold dTk
 simp [this]
theorem prs_at (nm : ByteArray) (L : List Stp) (hL : ∀ s ∈ L, stpB s = true) : prs (dTk nm L) 0 = (6 * L.length + 4, some (nm, L)) := by
 unfold Df.prs
 have t0 : tk (dTk nm L) 0 = ⟨1, Df.wSaga, 0⟩ := rfl
 have t1 : tk (dTk nm L) (0 + 1) = ⟨1, nm, 0⟩ := rfl
 have t2 : tk (dTk nm L) (0 + 2) = ⟨3, Df.gOpen, 0⟩ := rfl
 rw [t0, if_pos (by decide), t1, if_pos rfl, t2, if_pos (by decide), stps_at L (dTk nm L) _ (0 + 3) [] hL (by rw [dTk_len]; omega) rfl]
 simp only [List.nil_append, Prod.mk.injEq, and_true]
 omega
theorem dTk_last (nm : ByteArray) (L : List Stp) : (tk (dTk nm L) (6 * L.length + 4)).k = 0 := by
 have hl := dTk_len nm L
 rw [Df.tk_get _ _ (by omega)]
 have e : dTk nm L = (⟨1, Df.wSaga, 0⟩ :: ⟨1, nm, 0⟩ :: ⟨3, Df.gOpen, 0⟩ :: (L.flatMap sTk ++ [⟨3, Df.gShut, 0⟩])) ++ [⟨0, ⟨#[]⟩, 0⟩] := by simp [dTk]
 have hl2 : ((⟨1, Df.wSaga, 0⟩ :: ⟨1, nm, 0⟩ :: ⟨3, Df.gOpen, 0⟩ :: (L.flatMap sTk ++ [⟨3, Df.gShut, 0⟩]) : List Tok)).length = 6 * L.length + 4 := by
  have := congrArg List.length e
  rw [hl, List.length_append] at this
  simp only [List.length_singleton] at this
  omega
 simp only [e]
 rw [List.getElem_append_right (by omega)]
 simp

/- how long a text is -/
theorem ln_len (a b c d e : ByteArray) : (ln [a, b, c, d, e]).length = a.size + b.size + c.size + d.size + e.size + 8 := by
 simp [ln]; omega
theorem name_le {s : ByteArray} (h : nameB s = true) : s.size <= 16 := (Act.name_pos h).2
theorem stT_len {s : Stp} (h : stpB s = true) : (stT s).length <= 60 := by
 unfold stT stW
 cases hk : askB s with
 | true =>
  obtain ⟨n1, _, _, _, _, o1, o2, v1, v2⟩ := (Df.ask_iff s).1 hk
  simp only [if_true]
  rw [ln_len]
  have := dg_size s.o 1 (by omega)
  have := dg_size s.v 1 (by omega)
  have := name_le n1
  have : Df.wAsk.size = 3 := by decide
  have : Df.wWait.size = 4 := by decide
  omega
 | false =>
  obtain ⟨_, ab, _, _, y1, y2⟩ := (Df.own_iff s).1 (own_of h hk)
  obtain ⟨⟨k1, k2⟩, nb, n1, n2⟩ := (Act.act_iff s.k s.a s.n).1 ab
  simp only [Bool.false_eq_true, if_false]
  rw [ln_len]
  have := dg_size s.n 15 (by omega)
  have := dg_size s.y 1 (by omega)
  have := name_le nb
  have := (wk_name s.k k1 k2).2.2.2
  have : Df.wTries.size = 5 := by decide
  omega
theorem stTs_len : ∀ (L : List Stp), (∀ s ∈ L, stpB s = true) -> (L.flatMap stT).length <= 60 * L.length := by
 intro L
 induction L with
 | nil => intro _; simp
 | cons s t ih =>
  intro h
  have h1 := stT_len (h s (by simp))
  have h2 := ih (fun x hx => h x (by simp [hx]))
  rw [List.flatMap_cons, List.length_append, List.length_cons]; omega
theorem shT_len {nm : ByteArray} {L : List Stp} (h : defB nm L = true) : (shT nm L).length <= 600 := by
 obtain ⟨h1, h2, h3, h4⟩ := (Df.def_iff nm L).1 h
 have := stTs_len L h4
 have := name_le h1
 have hz : nm.data.toList.length = nm.size := by simp
 unfold shT shH
 simp only [List.length_append, List.length_cons, List.length_nil, hz]
 omega
/- what Scan answers of a definition's text -/
theorem scan_def {nm : ByteArray} {L : List Stp} (h : defB nm L = true) : scF (shT nm L) = 0 /\ butL (scT (shT nm L)) (dTk nm L) := by
 have hl := shT_len h
 obtain ⟨h1, h2, h3, h4⟩ := (Df.def_iff nm L).1 h
 obtain ⟨T, hT, hS⟩ := cut_def h1 h4
 unfold Lex.scF Lex.scT
 rw [if_neg (show ¬ 2000 < (shT nm L).length by omega), if_neg (show ¬ 2000 < (shT nm L).length by omega), hS]
 exact ⟨rfl, hT⟩
end Go.Proofs.YthaadiclopoamaaGreatDoor
/- ententeref01.Number lays the same: Pk.numF, for whatever fuel suffices. -/
set_option maxRecDepth 100000
set_option maxHeartbeats 8000000
namespace Go.Proofs.YthaadiclopoamaaGreatDoor
open Go.RowKit
attribute [local go_sem ↓] Go.wp_at_zero Go.wp_at_succ

theorem refNumber_any (f : Nat) : ∀ (n : Nat) (w : World), f <= 9 -> n < 128 ^ (f + 1) -> n < 18446744073709551616 ->
  Calls Tryz.prog 66 #[.int .u64 n] w fun e w' => e = .returned (.string ⟨(Pk.numF f n).toArray⟩) /\ Gr w w' := by
 induction f with
 | zero =>
  intro n w hf9 h h1
  have hlt : n < 128 := by simpa using h
  have hc := fun w b => conv1 w b n (by omega)
  go_enter Tryz.func66, Tryz.ntmps66
  go_wp2
  go_ret
  exact ⟨rfl, (by repeat(first|exact Gr.r _|refine Gr.a ?_|refine Gr.d ?_|refine Gr.t ?_ (by assumption)))⟩
 | succ f ih =>
  intro n w hf9 h h1
  by_cases hlt : n < 128
  ·have hc := fun w b => conv1 w b n (by omega)
   have e := Pk.numF_lt (f + 1) n hlt
   rw [e]
   clear ih e
   go_enter Tryz.func66, Tryz.ntmps66
   go_wp2
   go_ret
   exact ⟨rfl, (by repeat(first|exact Gr.r _|refine Gr.a ?_|refine Gr.d ?_|refine Gr.t ?_ (by assumption)))⟩
  ·have hc : ∀ (w : World) (b : Nat), w.cell? ⟨b, 0, none⟩ = some (.int .u8 ((n : Int) % 128 + 128)) -> (convert 124 9 (.slice (some ⟨b, 0, none⟩) 1 1)).run Tryz.prog w = .ok (.string ⟨#[UInt8.ofNat (n % 128 + 128)]⟩) w := by
    intro w b hw
    exact conv1 w b (n % 128 + 128) (by omega) (by rw [hw]; simp)
   have ih' : ∀ w : World, Calls Tryz.prog 66 #[.int .u64 ((n : Int) / 128)] w fun e w' => e = .returned (.string ⟨(Pk.numF f (n / 128)).toArray⟩) /\ Gr w w' := by
    intro w
    have := ih (n / 128) w (by omega) (by rw [Nat.pow_succ] at h; omega) (by omega)
    simpa using this
   have hlen := Pk.numF_len f (n / 128)
   have hE0 : (n : Int).tmod 128 = (n : Int) % 128 := by rw [Int.tmod_eq_emod_of_nonneg (by omega)]
   have hE1 : IntKind.u64.wrap ((n : Int) % 128 + 128) = (n : Int) % 128 + 128 := w64 _ (by omega) (by omega)
   have hE2 : IntKind.u8.wrap ((n : Int) % 128 + 128) = (n : Int) % 128 + 128 := w8 _ (by omega) (by omega)
   have hE3 : IntKind.u64.wrap ((n : Int) / 128) = (n : Int) / 128 := w64 _ (by omega) (by omega)
   have e := Pk.numF_ge f n hlt
   rw [e]
   generalize Pk.numF f (n / 128) = t at *
   generalize UInt8.ofNat (n % 128 + 128) = c at *
   have hadd := add_lists [c] t (by simp; omega)
   clear ih e h hlen
   have IH : Hid (∀ w : World, Calls Tryz.prog 66 #[.int .u64 ((n : Int) / 128)] w fun e w' => e = .returned (.string ⟨t.toArray⟩) /\ Gr w w') := ih'
   clear ih'
   go_enter Tryz.func66, Tryz.ntmps66
   go_wp2
   go_region_with (go_at_call 66; refine (IH.out _).mono ?_; rintro e w1 ⟨rfl, hb1⟩; obtain ⟨hc1, hf1⟩ := hb1.cells)
   all_goals go_wp2
   all_goals go_ret
   all_goals exact ⟨rfl, (by repeat(first|exact Gr.r _|refine Gr.a ?_|refine Gr.d ?_|refine Gr.t ?_ (by assumption)))⟩
end Go.Proofs.YthaadiclopoamaaGreatDoor
