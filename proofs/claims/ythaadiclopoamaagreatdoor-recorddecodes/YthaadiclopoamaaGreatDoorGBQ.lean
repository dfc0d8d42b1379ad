/- Parts of these proofs, laid together. -/
import Derived.Test.YthaadiclopoamaaGreatDoorGBN
import Derived.Test.YthaadiclopoamaaGreatDoorGBP
import Derived.Test.YthaadiclopoamaaGreatDoorGN
import Derived.Test.YthaadiclopoamaaGreatDoorGQ
import Derived.Test.YthaadiclopoamaaGreatDoorGBL
import Derived.Test.YthaadiclopoamaaGreatDoorGR
import Derived.Test.YthaadiclopoamaaGreatDoorGF
/- The document's Text of definitions. -/
set_option maxRecDepth 100000
set_option maxHeartbeats 8000000
namespace Go.Proofs.YthaadiclopoamaaGreatDoor
open Go.RowKit
open Lex (Tok ckE scT scF scA)
open Df (Stp St tk Gd prs pE pA pT pN pL)

theorem pA_ok {T : List Lex.Tok} {i : Int} (h : pE T i = 0) : pA T i = 0 := by
 unfold Df.pE at h
 unfold Df.pA
 by_cases h80 : ckE T = 80
 ·rw [if_pos h80]
 ·rw [if_neg h80] at h ⊢
  by_cases hat : 0 <= i /\ i < T.length
  ·rw [if_pos hat] at h ⊢
   cases ho : (prs T i.toNat).2 with
   | none => rw [ho] at h; cases h
   | some x =>
    obtain ⟨nm, L⟩ := x
    rw [ho] at h
    simp only at h ⊢
    cases hd : Df.defB nm L with
    | true => rfl
    | false => rw [Df.ch_no hd] at h; cases h
  ·rw [if_neg hat]
theorem pN_no {T : List Lex.Tok} {i : Int} (h : pE T i ≠ 0) : pN T i = ⟨#[]⟩ /\ pL T i = [] := by
 unfold Df.pN Df.pL
 rw [if_neg h, if_neg h]; exact ⟨rfl, rfl⟩

theorem lRefText_any (s : ByteArray) (w : World) (hsz : s.size <= 9223372036854775807) : Calls Tryz.prog 99 #[.string s] w fun e w' => TxR w (tN s.data.toList) (tL s.data.toList) (tE s.data.toList) (tA s.data.toList) e w' := by
 have hl : s.data.toList.length = s.size := by simp
 have HS : Hid (∀ w' : World, Calls Tryz.prog 118 #[.string s] w' fun e w2 => ∃ ad cap, e = .returned (.tuple #[.slice ad (scT s.data.toList).length cap, .agg #[.int .i64 (scF s.data.toList), .int .i64 (scA s.data.toList)]]) /\ (scT s.data.toList).length <= cap /\ ToksAt w2 ad (scT s.data.toList) /\ (∀ a, ad = some a -> w'.heap.size <= a.block) /\ Gr w' w2) := fun w' => refScan_any s w'
 have HP : Hid (∀ (ad : Option Addr) (cap : Nat) (w' : World), ToksAt w' ad (scT s.data.toList) -> (scT s.data.toList).length <= cap -> Calls Tryz.prog 119 #[.slice ad (scT s.data.toList).length cap, .int .i64 0] w' fun e w2 => PaR w' (pN (scT s.data.toList) 0) (pL (scT s.data.toList) 0) (pT (scT s.data.toList) 0) (pE (scT s.data.toList) 0) (pA (scT s.data.toList) 0) e w2) := fun ad cap w' h _ => lRefParse_any _ ad cap 0 w' h (by have := Lex.scT_len s.data.toList; omega) (scT_size _ (by omega))
 have HTE : Hid (tE s.data.toList = if scF s.data.toList ≠ 0 then scF s.data.toList else if pE (scT s.data.toList) 0 ≠ 0 then pE (scT s.data.toList) 0 else if (tk (scT s.data.toList) (pT (scT s.data.toList) 0).toNat).k ≠ 0 then 81 else 0) := rfl
 have HTA : Hid (tA s.data.toList = if scF s.data.toList ≠ 0 then scA s.data.toList else if pE (scT s.data.toList) 0 ≠ 0 then pA (scT s.data.toList) 0 else if (tk (scT s.data.toList) (pT (scT s.data.toList) 0).toNat).k ≠ 0 then (tk (scT s.data.toList) (pT (scT s.data.toList) 0).toNat).p else 0) := rfl
 have HTN : Hid (tN s.data.toList = if tE s.data.toList = 0 then pN (scT s.data.toList) 0 else ⟨#[]⟩) := rfl
 have HTL : Hid (tL s.data.toList = if tE s.data.toList = 0 then pL (scT s.data.toList) 0 else []) := rfl
 have HPA : Hid (pE (scT s.data.toList) 0 = 0 -> pA (scT s.data.toList) 0 = 0) := pA_ok
 have HPN : Hid (pE (scT s.data.toList) 0 ≠ 0 -> pN (scT s.data.toList) 0 = ⟨#[]⟩ /\ pL (scT s.data.toList) 0 = []) := pN_no
 have HPT : Hid (scF s.data.toList = 0 -> pE (scT s.data.toList) 0 = 0 -> (pT (scT s.data.toList) 0).toNat < (scT s.data.toList).length /\ 0 <= pT (scT s.data.toList) 0) := fun h1 h2 => pT_lt (ck_scan h1) h2
 have HA0 := Lib.hid (TwoAt.new w (.string ⟨#[]⟩) (.slice none 0 0) 27 _ rfl)
 have HB0 := Lib.hid (TwoAt.new (w.alloc (.cells #[.string ⟨#[]⟩, .slice none 0 0] 27)) (.int .i64 0) (.int .i64 0) 136 (w.heap.size + 1) (by simp))
 clear hsz hl
 generalize tN s.data.toList = TN at *
 generalize tL s.data.toList = TL at *
 generalize tE s.data.toList = TE at *
 generalize tA s.data.toList = TA at *
 generalize scT s.data.toList = T at *
 generalize scF s.data.toList = SF at *
 generalize scA s.data.toList = SA at *
 generalize pN T 0 = PN at *
 generalize pL T 0 = PL at *
 generalize pE T 0 = PE at *
 generalize pA T 0 = PA at *
 generalize pT T 0 = PT at *
 go_enter Tryz.func99, Tryz.ntmps99
 go_wp2_with fail
 refine (HS.out _).mono ?_
 rintro e w1 ⟨ad, cap, rfl, hcp, htk, hfr, hg⟩
 have HG1 : Hid (Gr w w1) := (Gr.refl _).alloc.alloc.trans hg
 have HA1 := Lib.hid ((HA0.out.gr (Gr.refl _).alloc).gr hg)
 have HB1 := Lib.hid (HB0.out.gr hg)
 have HK1 := Lib.hid htk
 have HC1 := Lib.hid hcp
 have HF1 := Lib.hid (TwoAt.new w1 (.int .i64 SF) (.int .i64 SA) 136 _ rfl)
 clear hcp htk hfr hg HA0 HB0
 have n1 : ¬ w1.heap.size = w.heap.size := by have := HB1.out.lt; omega
 have n2 : ¬ w.heap.size = w1.heap.size := by have := HB1.out.lt; omega
 have n3 : ¬ w1.heap.size = w.heap.size + 1 := by have := HB1.out.lt; omega
 have n4 : ¬ w.heap.size + 1 = w1.heap.size := by have := HB1.out.lt; omega
 by_cases h1 : SF = 0
 ·subst h1
  go_wp2_with fail
  refine (HP.out ad cap _ (HK1.out.gr (Gr.refl _).alloc) HC1.out).mono ?_
  rintro e w2 ⟨a, c, rfl, hst, hlc, hfr, hg⟩
  have HG2 : Hid (Gr w w2) := HG1.out.alloc.trans hg
  obtain ⟨a0, a1, af0, af1, al⟩ := (HA1.out.gr (Gr.refl _).alloc).gr hg
  obtain ⟨b0, b1, bf0, bf1, bl⟩ := (HB1.out.gr (Gr.refl _).alloc).gr hg
  obtain ⟨f0, f1, ff0, ff1, fl⟩ := HF1.out.gr hg
  have HS2 := Lib.hid hst
  have HE2 : Hid (PL.length <= c /\ ∀ x, a = some x -> w1.heap.size + 1 <= x.block) := ⟨hlc, fun x e => by have := hfr x e; simpa using this⟩
  have HN1 : Hid (w.heap.size + 1 < w1.heap.size) := HB1.out.lt
  have HK2 := Lib.hid ((HK1.out.gr (Gr.refl _).alloc).gr hg)
  have hn1 := HN1.out
  have m1 : ¬ w2.heap.size = w.heap.size := by omega
  have m2 : ¬ w.heap.size = w2.heap.size := by omega
  have m3 : ¬ w2.heap.size = w.heap.size + 1 := by omega
  have m4 : ¬ w.heap.size + 1 = w2.heap.size := by omega
  have m5 : ¬ w2.heap.size = w1.heap.size := by omega
  have m6 : ¬ w1.heap.size = w2.heap.size := by omega
  clear hst hlc hfr hg hn1
  by_cases h2 : PE = 0
  ·subst h2
   obtain rfl : PA = 0 := HPA.out (by first | rfl | trivial)
   obtain ⟨p1, p2⟩ := HPT.out (by first | rfl | trivial) (by first | rfl | trivial)
   obtain ⟨j, hj⟩ : ∃ j : Nat, PT = (j : Int) := ⟨PT.toNat, by omega⟩
   subst hj
   rw [Int.toNat_natCast] at p1 HTE HTA
   obtain ⟨tb, off, rfl, htb, _, _, _⟩ := HK1.out j p1
   obtain ⟨tb', off', e, htb2, t0, t1, t2⟩ := HK2.out j p1
   cases e
   rw [<- Df.tk_get T j p1] at t0 t1 t2
   generalize tk T j = x at *
   obtain ⟨xk, xt, xp⟩ := x
   simp only at *
   have nt : ¬ w1.heap.size = tb := by omega
   have nt' : ¬ tb = w1.heap.size := by omega
   have nt2 : ¬ w2.heap.size = tb := by omega
   have nt3 : ¬ tb = w2.heap.size := by omega
   by_cases h3 : xk = 0
   ·subst h3
    have HV : Hid (TE = 0 /\ TA = 0 /\ TN = PN /\ TL = PL) := by
     have q1 : TE = 0 := by rw [HTE.out, if_neg (by simp), if_neg (by simp), if_neg (by simp)]
     refine ⟨q1, ?_, ?_, ?_⟩
     ·rw [HTA.out, if_neg (by simp), if_neg (by simp), if_neg (by simp)]
     ·rw [HTN.out, if_pos q1]
     ·rw [HTL.out, if_pos q1]
    clear HTE HTA HTN HTL
    go_wp2
    go_region
    go_wp2
    refine bodyPost_ret (v := .tuple #[.agg #[.string PN, .slice a PL.length c], .agg #[.int .i64 0, .int .i64 0]]) (by simp [results, Tryz.results99, go_sem, *]) rfl ?_
    rw [HV.out.1, HV.out.2.1, HV.out.2.2.1, HV.out.2.2.2]
    have hg2 := HG2.out
    have hn1 := HN1.out
    refine ⟨a, c, rfl, ?_, HE2.out.1, fun x e => by have := HE2.out.2 x e; omega, (by (with_reducible repeat' (first | exact Gr.refl _ | refine Gr.set ?_ _ ?_ _ | refine Gr.alloc ?_ | refine Gr.drew ?_ | refine Gr.trans ?_ (by assumption))) <;> (first | (simp; done) | (simp; omega) | omega))⟩
    repeat (first | with_reducible exact HS2.out | with_reducible refine RowAt.setFar ?_ _ _ (fun x e => by have := HE2.out.2 x e; simp; omega) | with_reducible refine RowAt.drew ?_ | with_reducible refine RowAt.alloc ?_ | with_reducible refine RowAt.gr ?_ ((Gr.refl _).drewN _))
   ·have e3 : (xk != 0) = true := by simpa using h3
    have HV : Hid (TE = 81 /\ TA = xp /\ TN = ⟨#[]⟩ /\ TL = []) := by
     have q1 : TE = 81 := by rw [HTE.out, if_neg (by simp), if_neg (by simp), if_pos h3]
     refine ⟨q1, ?_, ?_, ?_⟩
     ·rw [HTA.out, if_neg (by simp), if_neg (by simp), if_pos h3]
     ·rw [HTN.out, if_neg (by rw [q1]; decide)]
     ·rw [HTL.out, if_neg (by rw [q1]; decide)]
    clear h3 HTE HTA HTN HTL
    go_wp2
    go_region
    go_wp2
    refine bodyPost_ret (v := .tuple #[.agg #[.string ⟨#[]⟩, .slice none 0 0], .agg #[.int .i64 81, .int .i64 xp]]) (by simp [results, Tryz.results99, go_sem, *]) rfl ?_
    rw [HV.out.1, HV.out.2.1, HV.out.2.2.1, HV.out.2.2.2]
    have hg2 := HG2.out
    have hn1 := HN1.out
    exact ⟨none, 0, rfl, RowAt.nil, by simp, (fun x e => by cases e), (by (with_reducible repeat' (first | exact Gr.refl _ | refine Gr.set ?_ _ ?_ _ | refine Gr.alloc ?_ | refine Gr.drew ?_ | refine Gr.trans ?_ (by assumption))) <;> (first | (simp; done) | (simp; omega) | omega))⟩
  ·have e2 : (PE != 0) = true := by simpa using h2
   have e2' : (PE == 0) = false := by simpa using h2
   obtain ⟨hPN, hPL⟩ := HPN.out h2
   subst hPN hPL
   have HV : Hid (TE = PE /\ TA = PA /\ TN = ⟨#[]⟩ /\ TL = []) := by
    have q1 : TE = PE := by rw [HTE.out, if_neg (by simp), if_pos h2]
    refine ⟨q1, ?_, ?_, ?_⟩
    ·rw [HTA.out, if_neg (by simp), if_pos h2]
    ·rw [HTN.out, if_neg (by rw [q1]; exact h2)]
    ·rw [HTL.out, if_neg (by rw [q1]; exact h2)]
   clear h2 HTE HTA HTN HTL
   simp only [List.length_nil]
   go_wp2
   go_region
   go_wp2
   refine bodyPost_ret (v := .tuple #[.agg #[.string ⟨#[]⟩, .slice a 0 c], .agg #[.int .i64 PE, .int .i64 PA]]) (by simp [results, Tryz.results99, go_sem, *]) rfl ?_
   rw [HV.out.1, HV.out.2.1, HV.out.2.2.1, HV.out.2.2.2]
   have hg2 := HG2.out
   have hn1 := HN1.out
   exact ⟨a, c, rfl, RowAt.nil, by simp, fun x e => (by have := HE2.out.2 x e; omega), (by (with_reducible repeat' (first | exact Gr.refl _ | refine Gr.set ?_ _ ?_ _ | refine Gr.alloc ?_ | refine Gr.drew ?_ | refine Gr.trans ?_ (by assumption))) <;> (first | (simp; done) | (simp; omega) | omega))⟩
 ·have e1 : (SF != 0) = true := by simpa using h1
  have HV : Hid (TE = SF /\ TA = SA /\ TN = ⟨#[]⟩ /\ TL = []) := by
   have q1 : TE = SF := by rw [HTE.out, if_pos h1]
   refine ⟨q1, ?_, ?_, ?_⟩
   ·rw [HTA.out, if_pos h1]
   ·rw [HTN.out, if_neg (by rw [q1]; exact h1)]
   ·rw [HTL.out, if_neg (by rw [q1]; exact h1)]
  clear h1 HTE HTA HTN HTL
  obtain ⟨a0, a1, af0, af1, al⟩ := HA1.out
  obtain ⟨b0, b1, bf0, bf1, bl⟩ := HB1.out
  go_wp2
  go_region
  go_wp2
  refine bodyPost_ret (v := .tuple #[.agg #[.string ⟨#[]⟩, .slice none 0 0], .agg #[.int .i64 SF, .int .i64 SA]]) (by simp [results, Tryz.results99, go_sem, *]) rfl ?_
  rw [HV.out.1, HV.out.2.1, HV.out.2.2.1, HV.out.2.2.2]
  have hg1 := HG1.out
  exact ⟨none, 0, rfl, RowAt.nil, by simp, (fun x e => by cases e), (by (with_reducible repeat' (first | exact Gr.refl _ | refine Gr.set ?_ _ ?_ _ | refine Gr.alloc ?_ | refine Gr.drew ?_ | refine Gr.trans ?_ (by assumption))) <;> (first | (simp; done) | (simp; omega) | omega))⟩
end Go.Proofs.YthaadiclopoamaaGreatDoor
/- the document's record: small numbers, definitions. -/
set_option maxRecDepth 100000
set_option maxHeartbeats 8000000
namespace Go.Proofs.YthaadiclopoamaaGreatDoor
open Go.RowKit
open Df (Stp)

theorem qtake_any (s : ByteArray) (p : Nat) (ok : Bool) (w : World) (hs : s.size <= 140737488355328) :
  Calls Tryz.prog 74 #[.string s, .int .i64 (p : Int), .bool ok] w fun e w' => e = .returned (.tuple #[.int .i64 (Rc.tkV s.data.toList p ok : Nat), .int .i64 (Rc.tkP s.data.toList p ok : Nat), .bool (Rc.tkB s.data.toList p ok)]) /\ Gr w w' := by
 have HT : Hid (∀ w' : World, Calls Tryz.prog 97 #[.string s, .int .i64 (p : Int)] w' fun e w2 => e = .returned (.tuple #[.int .u64 (Pk.takeNum s.data.toList p).1, .int .i64 (Pk.takeNum s.data.toList p).2.1, .int .i64 (Pk.takeNum s.data.toList p).2.2]) /\ Gr w' w2) := fun w' => (refTakeNumber_any s p w' hs).mono fun _ _ h => ⟨h.1, by first | exact h.2 | (rw [h.2]; exact Gr.refl _)⟩
 have HB : Hid (Rc.tkB s.data.toList p ok = (ok && decide ((Pk.takeNum s.data.toList p).2.2 = 0) && !decide (1000000 < (Pk.takeNum s.data.toList p).1))) := rfl
 have HV : Hid (Rc.tkV s.data.toList p ok = if Rc.tkB s.data.toList p ok = true then (Pk.takeNum s.data.toList p).1 else 0) := rfl
 have HP : Hid (Rc.tkP s.data.toList p ok = if Rc.tkB s.data.toList p ok = true then (Pk.takeNum s.data.toList p).2.1 else 0) := rfl
 generalize Rc.tkB s.data.toList p ok = B at *
 generalize Rc.tkV s.data.toList p ok = V at *
 generalize Rc.tkP s.data.toList p ok = P at *
 generalize (Pk.takeNum s.data.toList p).1 = v at *
 generalize (Pk.takeNum s.data.toList p).2.1 = q at *
 generalize (Pk.takeNum s.data.toList p).2.2 = e at *
 clear hs
 have no : B = false -> V = 0 /\ P = 0 := fun h => by
  subst h
  exact ⟨HV.out, HP.out⟩
 cases ok with
 | false =>
  obtain rfl : B = false := HB.out
  obtain ⟨rfl, rfl⟩ := no rfl
  clear no HB HV HP
  go_enter Tryz.func74, Tryz.ntmps74
  go_wp2_with fail
  refine (HT.out _).mono ?_
  rintro e4 w1 ⟨rfl, hg1⟩
  go_wp2
  exact bodyPost_ret (v := .tuple #[.int .i64 0, .int .i64 0, .bool false]) (by simp [results, Tryz.results74, go_sem, *]) rfl ⟨rfl, (by repeat(first|exact Gr.r _|refine Gr.a ?_|refine Gr.d ?_|refine Gr.t ?_ (by assumption)))⟩
 | true =>
  by_cases he : e = 0
  case neg =>
   have he' : ((e : Int) != 0) = true := by simpa using (show ¬ (e : Int) = 0 by omega)
   obtain rfl : B = false := by rw [HB.out, decide_eq_false he]; rfl
   obtain ⟨rfl, rfl⟩ := no rfl
   clear no HB HV HP he
   go_enter Tryz.func74, Tryz.ntmps74
   go_wp2_with fail
   refine (HT.out _).mono ?_
   rintro e4 w1 ⟨rfl, hg1⟩
   go_wp2
   exact bodyPost_ret (v := .tuple #[.int .i64 0, .int .i64 0, .bool false]) (by simp [results, Tryz.results74, go_sem, *]) rfl ⟨rfl, (by repeat(first|exact Gr.r _|refine Gr.a ?_|refine Gr.d ?_|refine Gr.t ?_ (by assumption)))⟩
  subst he
  by_cases hv : 1000000 < v
  ·have hv' : (1000000 : Int) < (v : Int) := by omega
   obtain rfl : B = false := by rw [HB.out, decide_eq_true hv]; rfl
   obtain ⟨rfl, rfl⟩ := no rfl
   clear no HB HV HP hv
   go_enter Tryz.func74, Tryz.ntmps74
   go_wp2_with fail
   refine (HT.out _).mono ?_
   rintro e4 w1 ⟨rfl, hg1⟩
   go_wp2
   exact bodyPost_ret (v := .tuple #[.int .i64 0, .int .i64 0, .bool false]) (by simp [results, Tryz.results74, go_sem, *]) rfl ⟨rfl, (by repeat(first|exact Gr.r _|refine Gr.a ?_|refine Gr.d ?_|refine Gr.t ?_ (by assumption)))⟩
  ·have hv' : ¬ (1000000 : Int) < (v : Int) := by omega
   have hw : IntKind.i64.wrap (v : Int) = (v : Int) := by rw [IntKind.wrap_i64]; omega
   obtain rfl : B = true := by rw [HB.out, decide_eq_false hv]; rfl
   obtain rfl : V = v := HV.out
   obtain rfl : P = q := HP.out
   clear no HB HV HP hv
   go_enter Tryz.func74, Tryz.ntmps74
   go_wp2_with fail
   refine (HT.out _).mono ?_
   rintro e4 w1 ⟨rfl, hg1⟩
   go_wp2
   exact bodyPost_ret (v := .tuple #[.int .i64 (V : Int), .int .i64 (P : Int), .bool true]) (by simp [results, Tryz.results74, go_sem, *]) rfl ⟨rfl, (by repeat(first|exact Gr.r _|refine Gr.a ?_|refine Gr.d ?_|refine Gr.t ?_ (by assumption)))⟩

/- what definition answers -/
def QdfR (t : List UInt8) (w : World) (e : Ending) (w' : World) : Prop :=
 ∃ ad cap, e = .returned (.agg #[.string (tN t), .slice ad (tL t).length cap]) /\ StpsAt w' ad (tL t) /\ (∀ a, ad = some a -> w.heap.size < a.block) /\ Gr w w'

theorem qdf_any (t : List UInt8) (w : World) (hs : t.length <= 140737488355328) :
  Calls Tryz.prog 77 #[.string ⟨t.toArray⟩] w fun e w' => QdfR t w e w' := by
 have ht : ((⟨t.toArray⟩ : ByteArray).toList == []) = decide (t = []) := by
  rw [ByteArray.toList_eq]
  by_cases h : t = []
  ·subst h; rfl
  ·simp [h]
 by_cases hn : t = []
 ·subst hn
  obtain ⟨n1, n2⟩ := Rc.no_text
  unfold QdfR
  rw [n1, n2]
  have hq : ((⟨([] : List UInt8).toArray⟩ : ByteArray).toList == []) = true := ht
  clear ht
  have N1 := Cs.new w [.string ⟨#[]⟩, .slice none 0 0] 27 _ rfl
  obtain ⟨c0, c1, cf0, cf1, clt⟩ := N1.d2
  clear N1
  go_enter Tryz.func77, Tryz.ntmps77
  go_wp2
  exact bodyPost_ret (v := .agg #[.string ⟨#[]⟩, .slice none 0 0]) (by simp [results, Tryz.results77, go_sem, *]) rfl ⟨none, 0, rfl, RowAt.nil, fun a e => (by cases e), (by (with_reducible repeat' (first | exact Gr.refl _ | refine Gr.set ?_ _ ?_ _ | refine Gr.alloc ?_ | refine Gr.drew ?_ | refine Gr.trans ?_ (by assumption))) <;> (first | (simp; done) | (simp; omega) | omega))⟩
 ·rw [decide_eq_false hn] at ht
  have HP : Hid (∀ w' : World, Calls Tryz.prog 99 #[.string ⟨t.toArray⟩] w' fun e w2 => ∃ a c, e = .returned (.tuple #[.agg #[.string (tN t), .slice a (tL t).length c], .agg #[.int .i64 (tE t), .int .i64 (tA t)]]) /\ StpsAt w2 a (tL t) /\ (tL t).length <= c /\ (∀ x, a = some x -> w'.heap.size <= x.block) /\ Gr w' w2) := fun w' => lRefText_any ⟨t.toArray⟩ w' (by simp [ByteArray.size]; omega)
  unfold QdfR
  generalize tN t = VN at *
  generalize tL t = VL at *
  generalize tE t = VE at *
  generalize tA t = VA at *
  generalize (⟨t.toArray⟩ : ByteArray) = tb at *
  clear hs hn
  go_enter Tryz.func77, Tryz.ntmps77
  go_wp2_with fail
  refine (HP.out _).mono ?_
  rintro e2 w2 ⟨ad2, cap2, rfl, hia, _, hfr, hg2⟩
  have R2 : Hid (Cs w2 w.heap.size [.string ⟨#[]⟩, .slice none 0 0]) := (Cs.new w [.string ⟨#[]⟩, .slice none 0 0] 27 _ rfl).gr hg2
  have G2 : Hid (Gr w w2) := (Gr.refl w).alloc.trans hg2
  have hw2 : w.heap.size < w2.heap.size := R2.out.lt
  have HF : Hid (∀ a, ad2 = some a -> w.heap.size < a.block) := fun a e => by have := hfr a e; simp at this; omega
  have HH := Lib.hid hia
  have hnn : w2.heap.size ≠ w.heap.size := by omega
  have hnb : w.heap.size ≠ w2.heap.size := by omega
  have hn1 : w2.heap.size + 1 ≠ w.heap.size := by omega
  clear hfr hia hg2
  have r2 := R2.out
  obtain ⟨c0, c1, cf0, cf1, clt⟩ := r2.d2
  clear r2
  go_wp2
  exact bodyPost_ret (v := .agg #[.string VN, .slice ad2 VL.length cap2]) (by simp [results, Tryz.results77, go_sem, *]) rfl (by
   refine ⟨ad2, cap2, rfl, ?_, HF.out, ?_⟩
   ·exact (HH.out.far2 w.heap.size (fun a e => by have := HF.out a e; omega) _ _).alloc.alloc
   ·exact (G2.out.set2 w.heap.size (Nat.le_refl _) _ _).alloc.alloc)
end Go.Proofs.YthaadiclopoamaaGreatDoor
