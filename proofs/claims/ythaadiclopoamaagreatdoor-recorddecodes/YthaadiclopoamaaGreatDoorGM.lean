/- Parts of these proofs, laid together. -/
import Derived.Test.YthaadiclopoamaaGreatDoorGL
import Derived.Test.YthaadiclopoamaaGreatDoorGJ
import Derived.BigRegion
import Derived.Test.YthaadiclopoamaaGreatDoorGK
import Derived.Test.YthaadiclopoamaaGreatDoorGD
/- def: Parse. -/
set_option maxRecDepth 100000
set_option maxHeartbeats 8000000
namespace Go.Proofs.YthaadiclopoamaaGreatDoor
open Go.RowKit
open Lex (Tok ckE valE numB)
open Df (Stp St tk Gd isT defB chE stpB one opt fin stps prs defN defR sm kw pE pA pT pN pL)
open _root_.Go.Proofs.YthaadiclopoamaaGreatDoor.Act (nameB)

/- what is read has numbers of 64 bits -/
theorem val_rng {t : ByteArray} (h : t.size <= 16) : 0 <= valE 2 t /\ valE 2 t < 10000000000000000 := by
 unfold Lex.valE
 by_cases hn : numB t = true
 ·rw [if_pos ⟨rfl, hn⟩]
  obtain ⟨_, p16, pd⟩ := Lex.num_parts hn
  refine Lex.vl_rng _ (by simpa using h) (fun b hb => ?_)
  obtain ⟨j, hj, rfl⟩ := List.getElem_of_mem hb
  exact pd j (by simpa using hj)
 ·rw [if_neg (fun e => hn e.2)]; omega
theorem sm_rng {t : ByteArray} (h : t.size <= 16) : inI (sm t) := by
 have := val_rng h
 unfold Df.sm inI
 split <;> omega
theorem fin_in {T : List Tok} {x : Nat × Option Int} {f : Int -> Stp} {s : Stp} (hf : ∀ n, x.2 = some n -> inS (f n)) (h : (fin T x f).2 = some s) : inS s := by
 unfold Df.fin at h
 cases hx : x.2 with
 | none => rw [hx] at h; cases h
 | some n =>
  rw [hx] at h
  simp only at h
  split at h
  ·simp only [Option.some.injEq] at h; subst h; exact hf n hx
  ·cases h
theorem opt_in {T : List Tok} (hT : Gd T) {i : Nat} {wd : ByteArray} {d n : Int} (hd : inI d) (h : (opt T i wd d).2 = some n) : inI n := by
 unfold Df.opt at h
 split at h
 ·split at h
  ·simp only [Option.some.injEq] at h; subst h; exact sm_rng (hT.size _)
  ·cases h
 ·simp only [Option.some.injEq] at h; subst h; exact hd
theorem one_in {T : List Tok} (hT : Gd T) {i : Nat} {s : Stp} (h : (one T i).2 = some s) : inS s := by
 have z : inI 0 := by unfold inI; omega
 have hz := fun j => hT.size j
 unfold Df.one at h
 split at h
 ·split at h
  ·split at h
   ·refine fin_in (fun n hn => ?_) h
    have := opt_in hT (by unfold inI; omega) hn
    exact ⟨by show (⟨#[]⟩ : ByteArray).size <= _; decide, by show (tk T (i + 2)).t.size <= _; have := hz (i + 2); omega, z, z, sm_rng (hz _), z, this⟩
   ·cases h
  ·cases h
 ·split at h
  ·split at h
   ·split at h
    ·refine fin_in (fun n hn => ?_) h
     have := opt_in hT (by unfold inI; omega) hn
     have hv := val_rng (hz (i + 2))
     have hk := Df.kw_range (tk T i).t
     exact ⟨by show (tk T (i + 1)).t.size <= _; have := hz (i + 1); omega, by show (⟨#[]⟩ : ByteArray).size <= _; decide, by unfold inI; show _ <= kw _ /\ kw _ <= _; omega, by unfold inI; show _ <= valE 2 _ /\ valE 2 _ <= _; omega, z, this, z⟩
    ·cases h
   ·cases h
  ·cases h
theorem stps_in {T : List Tok} (hT : Gd T) : ∀ (f i : Nat) (L M : List Stp), (∀ s ∈ L, inS s) -> (stps T f i L).2 = some M -> ∀ s ∈ M, inS s := by
 intro f
 induction f with
 | zero => intro i L M _ h; cases h
 | succ f ih =>
  intro i L M hL h
  unfold Df.stps at h
  split at h
  ·simp only [Option.some.injEq] at h; subst h; exact hL
  ·rcases hx : one T i with ⟨j, o⟩
   rw [hx] at h
   cases o with
   | none => cases h
   | some s =>
    refine ih j (L ++ [s]) M (fun x hx' => ?_) h
    rcases List.mem_append.1 hx' with h1 | h1
    ·exact hL x h1
    ·rw [List.mem_singleton] at h1; subst h1; exact one_in hT (by rw [hx])
theorem prs_in {T : List Tok} (hT : Gd T) {i : Nat} {nm : ByteArray} {L : List Stp} (h : (prs T i).2 = some (nm, L)) : (∀ s ∈ L, inS s) /\ nm.size <= 16 := by
 unfold Df.prs at h
 split at h
 ·split at h
  ·split at h
   ·rcases hx : stps T (T.length + 1) (i + 3) [] with ⟨j, o⟩
    rw [hx] at h
    cases o with
    | none => cases h
    | some M =>
     simp only [Option.some.injEq, Prod.mk.injEq] at h
     obtain ⟨h1, h2⟩ := h
     subst h1 h2
     exact ⟨stps_in hT _ _ [] M (by simp) (by rw [hx]), hT.size _⟩
   ·cases h
  ·cases h
 ·cases h

/- the answer of Parse -/
def PaR (w : World) (nm : ByteArray) (L : List Stp) (t e p : Int) (en : Ending) (w' : World) : Prop :=
 ∃ a c, en = .returned (.tuple #[.agg #[.string nm, .slice a L.length c], .int .i64 t, .agg #[.int .i64 e, .int .i64 p]]) /\ StpsAt w' a L /\ L.length <= c /\ (∀ x, a = some x -> w.heap.size <= x.block) /\ Gr w w'
theorem tok_place (k p : Int) (t : ByteArray) (W : World) : (Instr.field 167 (.agg #[.int .i64 k, .string t, .int .i64 p]) 2).run Tryz.prog W = .ok (.int .i64 p) W := by kernel_rfl

theorem dParse_bad (T : List Tok) (ad : Option Addr) (cap : Nat) (at' : Int) (w : World) (hT : ToksAt w ad T) (hc : T.length <= cap) (hn : T.length <= 5000) (hz : ∀ x ∈ T, x.t.size <= 9223372036854775807) (h : ckE T = 80 ∨ ¬ (0 <= at' /\ at' < T.length)) :
  Calls Tryz.prog 116 #[.slice ad T.length cap, .int .i64 at'] w fun e w' => PaR w ⟨#[]⟩ [] 0 (if ckE T = 80 then 80 else 2) 0 e w' := by
 have HC : Hid (∀ w', Gr w w' -> Calls Tryz.prog 133 #[.slice ad T.length cap] w' fun e w2 => e = .returned (.int .i64 (ckE T)) /\ Gr w' w2) := fun w' g => lCheck_any T ad cap w' (hT.gr g) hc hn hz
 have HW : Hid (∀ w', Calls Tryz.prog 86 #[.int .i64 at', .int .i64 0, .int .i64 ((T.length : Int) - 1)] w' fun e w2 => e = .returned (.bool (decide (0 <= at') && decide (at' <= (T.length : Int) - 1))) /\ w2 = w') := fun w' => within_any at' 0 _ w'
 have HA0 := Lib.hid (TwoAt.new w (.string ⟨#[]⟩) (.slice none 0 0) 27 _ rfl)
 have HB0 := Lib.hid (TwoAt.new (w.alloc (.cells #[.string ⟨#[]⟩, .slice none 0 0] 27)) (.int .i64 0) (.int .i64 0) 136 (w.heap.size + 1) (by simp))
 have hlw : wrap64 ((T.length : Int) - 1) = (T.length : Int) - 1 := by unfold wrap64; omega
 by_cases h80 : ckE T = 80
 ·rw [if_pos h80]
  rw [h80] at HC
  clear hT hz h h80 HW hlw
  go_enter Tryz.func116, Tryz.ntmps116
  go_wp2_with fail
  refine (HC.out _ (by repeat(first|exact Gr.r _|refine Gr.a ?_|refine Gr.d ?_|refine Gr.t ?_ (by assumption)))).mono ?_
  rintro e w1 ⟨rfl, hg⟩
  have HG1 : Hid (Gr w w1) := (Gr.refl _).alloc.alloc.trans hg
  obtain ⟨a0, a1, af0, af1, al⟩ := (HA0.out.gr (Gr.refl _).alloc).gr hg
  obtain ⟨b0, b1, bf0, bf1, bl⟩ := HB0.out.gr hg
  clear hg
  go_wp2
  refine bodyPost_ret (v := .tuple #[.agg #[.string ⟨#[]⟩, .slice none 0 0], .int .i64 0, .agg #[.int .i64 80, .int .i64 0]]) (by simp [results, Tryz.results116, go_sem, *]) rfl ⟨none, 0, rfl, RowAt.nil, by simp, (fun x e => by cases e), ?_⟩
  have hg1 := HG1.out
  exact (by (with_reducible repeat' (first | exact Gr.refl _ | refine Gr.set ?_ _ ?_ _ | refine Gr.alloc ?_ | refine Gr.drew ?_ | refine Gr.trans ?_ (by assumption))) <;> (first | (simp; done) | (simp; omega) | omega))
 ·rw [if_neg h80]
  have hb : (ckE T == 80) = false := by simpa using h80
  have hwb : (decide (0 <= at') && decide (at' <= (T.length : Int) - 1)) = false := by
   cases hq : (decide (0 <= at') && decide (at' <= (T.length : Int) - 1)) with
   | false => rfl
   | true =>
    simp only [Bool.and_eq_true, decide_eq_true_eq] at hq
    rcases h with h | h
    ·exact absurd h h80
    ·exact absurd ⟨hq.1, by omega⟩ h
  rw [hwb] at HW
  generalize ckE T = CK at *
  clear hT hz h h80 hwb
  go_enter Tryz.func116, Tryz.ntmps116
  go_wp2_with fail
  refine (HC.out _ (by repeat(first|exact Gr.r _|refine Gr.a ?_|refine Gr.d ?_|refine Gr.t ?_ (by assumption)))).mono ?_
  rintro e w1 ⟨rfl, hg⟩
  have HG1 : Hid (Gr w w1) := (Gr.refl _).alloc.alloc.trans hg
  obtain ⟨a0, a1, af0, af1, al⟩ := (HA0.out.gr (Gr.refl _).alloc).gr hg
  obtain ⟨b0, b1, bf0, bf1, bl⟩ := HB0.out.gr hg
  clear hg
  go_wp2_with fail
  refine (HW.out _).mono ?_
  rintro e w2 ⟨rfl, hw⟩; obtain rfl := hw.symm
  go_wp2
  refine bodyPost_ret (v := .tuple #[.agg #[.string ⟨#[]⟩, .slice none 0 0], .int .i64 0, .agg #[.int .i64 2, .int .i64 0]]) (by simp [results, Tryz.results116, go_sem, *]) rfl ⟨none, 0, rfl, RowAt.nil, by simp, (fun x e => by cases e), ?_⟩
  have hg1 := HG1.out
  exact (by (with_reducible repeat' (first | exact Gr.refl _ | refine Gr.set ?_ _ ?_ _ | refine Gr.alloc ?_ | refine Gr.drew ?_ | refine Gr.trans ?_ (by assumption))) <;> (first | (simp; done) | (simp; omega) | omega))
end Go.Proofs.YthaadiclopoamaaGreatDoor
/- def: Parse where there is a token of that number. -/
set_option maxRecDepth 100000
set_option maxHeartbeats 8000000
namespace Go.Proofs.YthaadiclopoamaaGreatDoor
open Go.RowKit
open Lex (Tok ckE valE numB)
open Df (Stp St tk Gd isT defB chE stpB one opt fin stps prs defN defR sm kw pE pA pT pN pL)

theorem Rd.new {w : World} {ad : Option Addr} {T : List Tok} {cap i m : Nat} (hT : ToksAt w ad T) (h0 : 0 < T.length) (hm : MapK w m) (t : TypeId) (g : Nat) (hg : g = w.heap.size) : Rd (w.alloc (.cells #[.slice ad T.length cap, .int .i64 (i : Int), .bool false, .map (some m)] t)) g m ad T cap ⟨i, false⟩ := by
 subst hg
 obtain ⟨tb, off, e, htb, _⟩ := hT 0 h0
 refine ⟨by simp, by simp, by simp, by simp, by simp [go_sem], by simp [go_sem], by simp, hT.gr (Gr.refl _).alloc, ?_, hm.gr (Gr.refl _).alloc, ?_⟩
 ·intro a ea
  rw [e] at ea
  cases ea
  exact ⟨by show tb ≠ _; omega, by simp; omega⟩
 ·have := hm.lt; omega
def PrW (T : List Tok) (i : Nat) (F : St × List Stp) (w : World) (nm : ByteArray) (e : Ending) (w' : World) : Prop :=
 (F.1.s = true -> PaR w ⟨#[]⟩ [] 0 81 (tk T F.1.i).p e w') /\ (F.1.s = false -> defB nm F.2 = false -> PaR w ⟨#[]⟩ [] 0 90 (tk T i).p e w') /\ (F.1.s = false -> defB nm F.2 = true -> PaR w nm F.2 (F.1.i : Int) 0 0 e w')

theorem dParse_good (T : List Tok) (ad : Option Addr) (cap : Nat) (i : Nat) (w : World) (hT : ToksAt w ad T) (hc : T.length <= cap) (hn : T.length <= 5000) (hz : ∀ x ∈ T, x.t.size <= 9223372036854775807) (h80 : ckE T ≠ 80) (hi : i < T.length)
  (hin : (defR T i).1.s = false -> ∀ s ∈ (defR T i).2, inS s) (hnm : (defN T i).size <= 16) :
  Calls Tryz.prog 116 #[.slice ad T.length cap, .int .i64 (i : Int)] w fun e w' => PrW T i (defR T i) w (defN T i) e w' := by
 have hG := Df.gd_of h80
 have HC : Hid (∀ w', Gr w w' -> Calls Tryz.prog 133 #[.slice ad T.length cap] w' fun e w2 => e = .returned (.int .i64 (ckE T)) /\ Gr w' w2) := fun w' g => lCheck_any T ad cap w' (hT.gr g) hc hn hz
 have HW : Hid (∀ w', Calls Tryz.prog 86 #[.int .i64 (i : Int), .int .i64 0, .int .i64 ((T.length : Int) - 1)] w' fun e w2 => e = .returned (.bool true) /\ w2 = w') := fun w' => by
  have := within_any (i : Int) 0 ((T.length : Int) - 1) w'
  rw [show (decide ((0 : Int) <= (i : Int)) && decide ((i : Int) <= (T.length : Int) - 1)) = true by simp; omega] at this
  exact this
 have HK : Hid (∀ w', Calls Tryz.prog 129 #[] w' fun e w2 => e = .returned (.map (some w'.heap.size)) /\ MapK w2 w'.heap.size /\ Gr w' w2) := fun w' => kinds_any w'
 have HD : Hid (∀ (b m : Nat) (w' : World), Rd w' b m ad T cap ⟨i, false⟩ -> Calls Tryz.prog 134 #[.pointer (some ⟨b, 0, none⟩)] w' fun e w2 => DfR w' b m ad T cap (defN T i) (defR T i) e w2) := fun b m w' h => dDef_any b m ad T cap i w' h hG hi hn
 have HH : Hid (∀ (b m : Nat) (q : St) (w' : World), q.i < T.length -> Rd w' b m ad T cap q -> Calls Tryz.prog 135 #[.pointer (some ⟨b, 0, none⟩)] w' fun e w2 => e = .returned (.agg #[.int .i64 (tk T q.i).k, .string (tk T q.i).t, .int .i64 (tk T q.i).p]) /\ Gr w' w2) := fun b m q w' hq h => dHere_any b m ad T cap q w' h hq
 have HX : Hid ((defR T i).1.s = false -> ∀ (a : Option Addr) (c : Nat) (w' : World), (defR T i).2.length <= 5001 -> StpsAt w' a (defR T i).2 -> Calls Tryz.prog 62 #[.agg #[.string (defN T i), .slice a (defR T i).2.length c]] w' fun e w2 => e = .returned (.int .i64 (chE (defN T i) (defR T i).2)) /\ Gr w' w2) := fun hs a c w' hl h => dCheck_any _ _ a c w' h (by omega) (by omega) (hin hs)
 have hlw : wrap64 ((T.length : Int) - 1) = (T.length : Int) - 1 := by unfold wrap64; omega
 have hb : (ckE T == 80) = false := by simpa using h80
 have HA0 := Lib.hid (TwoAt.new w (.string ⟨#[]⟩) (.slice none 0 0) 27 _ rfl)
 have HB0 := Lib.hid (TwoAt.new (w.alloc (.cells #[.string ⟨#[]⟩, .slice none 0 0] 27)) (.int .i64 0) (.int .i64 0) 136 (w.heap.size + 1) (by simp))
 have HT : Hid (ToksAt w ad T) := hT
 have HP : Hid (0 < T.length /\ i < T.length /\ T.length <= 5000) := ⟨by omega, hi, hn⟩
 have HCE : Hid (chE (defN T i) (defR T i).2 = if defB (defN T i) (defR T i).2 = true then 0 else 90) := rfl
 generalize ckE T = CK at *
 generalize defR T i = F at *
 generalize defN T i = NM at *
 obtain ⟨⟨fi, fs⟩, M⟩ := F
 simp only at *
 generalize chE NM M = CE at *
 generalize hDB : defB NM M = DB at *
 have HDB := Lib.hid hDB
 clear hT hz h80 hG hin hnm hDB
 go_enter Tryz.func116, Tryz.ntmps116
 go_wp2_with fail
 refine (HC.out _ (by repeat(first|exact Gr.r _|refine Gr.a ?_|refine Gr.d ?_|refine Gr.t ?_ (by assumption)))).mono ?_
 rintro e w1 ⟨rfl, hg⟩
 have HG1 : Hid (Gr w w1) := (Gr.refl _).alloc.alloc.trans hg
 have HA1 := Lib.hid ((HA0.out.gr (Gr.refl _).alloc).gr hg)
 have HB1 := Lib.hid (HB0.out.gr hg)
 clear hg HA0 HB0 HC
 go_wp2_with fail
 refine (HW.out _).mono ?_
 rintro e w2 ⟨rfl, hw⟩; obtain rfl := hw.symm
 clear HW
 go_wp2_with fail
 refine (HK.out _).mono ?_
 rintro e w2 ⟨rfl, hmk, hg⟩
 have HG2 : Hid (Gr w w2) := HG1.out.trans hg
 have HA2 := Lib.hid (HA1.out.gr hg)
 have HB2 := Lib.hid (HB1.out.gr hg)
 have HR2 := Lib.hid (Rd.new (i := i) (cap := cap) (HT.out.gr HG2.out) HP.out.1 hmk 192 _ rfl)
 clear hg hmk HA1 HB1 HG1 HK
 go_wp2_with fail
 refine (HD.out _ _ _ HR2.out).mono ?_
 rintro e w3 ⟨a, c, rfl, hst, hrd, hgb, hlc, hlt, hfi, hfr⟩
 simp only at hst hrd hlc hlt hfi
 have HG3 : Hid (Gr w w3) := Gr.gb HG2.out.alloc hgb HG2.out.size
 have HA3 := Lib.hid ((HA2.out.gr (Gr.refl _).alloc).grown hgb.g (by have := HA2.out.lt; simp; omega))
 have HB3 := Lib.hid ((HB2.out.gr (Gr.refl _).alloc).grown hgb.g (by have := HB2.out.lt; simp; omega))
 have HS3 := Lib.hid hst
 have HR3 := Lib.hid hrd
 have HE3 : Hid (M.length <= c /\ M.length <= 5001 /\ fi < T.length /\ ∀ x, a = some x -> w.heap.size + 2 <= x.block) := ⟨hlc, by have := HP.out; omega, hfi, fun x e => by have := hfr x e; have := HB2.out.lt; simp at *; omega⟩
 have HDD := Lib.hid (TwoAt.new w3 (.string NM) (.slice a M.length c) 27 _ rfl)
 have HB2n : Hid (w.heap.size + 2 <= w2.heap.size) := HB2.out.lt
 clear hst hrd hgb hlc hlt hfi hfr HA2 HB2 HG2 HR2 HD
 cases fs with
 | true =>
  obtain ⟨r0, r1, r2, r3, _, _, rl, _, _, _, _⟩ := HR3.out
  simp only at r1 r2
  go_wp2_with fail
  refine (HH.out _ _ _ _ HE3.out.2.2.1 (HR3.out.gr (Gr.refl _).alloc)).mono ?_
  rintro e w4 ⟨rfl, hg⟩
  simp only
  have hpl := tok_place (tk T fi).k (tk T fi).p (tk T fi).t
  have HG4 : Hid (Gr w w4) := HG3.out.alloc.trans hg
  obtain ⟨a0, a1, af0, af1, al⟩ := (HA3.out.gr (Gr.refl _).alloc).gr hg
  obtain ⟨b0, b1, bf0, bf1, bl⟩ := (HB3.out.gr (Gr.refl _).alloc).gr hg
  generalize hx : tk T fi = x at *
  obtain ⟨xk, xt, xp⟩ := x
  simp only at *
  have HXX := Lib.hid hx
  clear hg hx
  go_wp2
  refine bodyPost_ret (v := .tuple #[.agg #[.string ⟨#[]⟩, .slice none 0 0], .int .i64 0, .agg #[.int .i64 81, .int .i64 xp]]) (by simp [results, Tryz.results116, go_sem, *]) rfl ⟨fun _ => ?_, fun h => (by cases h), fun h => (by cases h)⟩
  show PaR w ⟨#[]⟩ [] 0 81 (tk T fi).p _ _
  rw [HXX.out]
  refine ⟨none, 0, rfl, RowAt.nil, by simp, (fun x e => by cases e), ?_⟩
  have hg4 := HG4.out
  exact (by (with_reducible repeat' (first | exact Gr.refl _ | refine Gr.set ?_ _ ?_ _ | refine Gr.alloc ?_ | refine Gr.drew ?_ | refine Gr.trans ?_ (by assumption))) <;> (first | (simp; done) | (simp; omega) | omega))
 | false =>
  obtain ⟨r0, r1, r2, r3, _, _, rl, _, _, _, _⟩ := HR3.out
  simp only at r1 r2
  go_wp2_with fail
  refine (HX.out (by first | rfl | trivial) _ _ _ HE3.out.2.1 (HS3.out.gr (Gr.refl _).alloc)).mono ?_
  rintro e w4 ⟨rfl, hg⟩
  have HG4 : Hid (Gr w w4) := HG3.out.alloc.trans hg
  have HS4 := Lib.hid ((HS3.out.gr (Gr.refl _).alloc).gr hg)
  obtain ⟨a0, a1, af0, af1, al⟩ := (HA3.out.gr (Gr.refl _).alloc).gr hg
  obtain ⟨b0, b1, bf0, bf1, bl⟩ := (HB3.out.gr (Gr.refl _).alloc).gr hg
  obtain ⟨d0, d1, df0, df1, dl⟩ := HDD.out.gr hg
  obtain ⟨s0, s1, s2, s3, _, _, sl, _, _, _, _⟩ := (HR3.out.gr (Gr.refl _).alloc).gr hg
  simp only at s1 s2
  clear hg r0 r1 r2 r3 rl
  have n1 : ¬ w2.heap.size = w.heap.size := by have := HB2n.out; omega
  have n2 : ¬ w.heap.size = w2.heap.size := by have := HB2n.out; omega
  have n3 : ¬ w2.heap.size = w.heap.size + 1 := by have := HB2n.out; omega
  have n4 : ¬ w.heap.size + 1 = w2.heap.size := by have := HB2n.out; omega
  have n5 : ¬ w3.heap.size = w.heap.size := by have := HB3.out.lt; omega
  have n6 : ¬ w.heap.size = w3.heap.size := by have := HB3.out.lt; omega
  have n7 : ¬ w3.heap.size = w.heap.size + 1 := by have := HB3.out.lt; omega
  have n8 : ¬ w.heap.size + 1 = w3.heap.size := by have := HB3.out.lt; omega
  cases DB with
  | true =>
   obtain rfl : CE = 0 := HCE.out
   go_wp2
   go_region
   go_wp2
   refine bodyPost_ret (v := .tuple #[.agg #[.string NM, .slice a M.length c], .int .i64 (fi : Int), .agg #[.int .i64 0, .int .i64 0]]) (by simp [results, Tryz.results116, go_sem, *]) rfl ⟨fun h => (by cases h), fun _ h => (by rw [HDB.out] at h; cases h), fun _ _ => ?_⟩
   have hg4 := HG4.out
   refine ⟨a, c, rfl, ?_, HE3.out.1, fun x e => by have := HE3.out.2.2.2 x e; omega, (by (with_reducible repeat' (first | exact Gr.refl _ | refine Gr.set ?_ _ ?_ _ | refine Gr.alloc ?_ | refine Gr.drew ?_ | refine Gr.trans ?_ (by assumption))) <;> (first | (simp; done) | (simp; omega) | omega))⟩
   repeat (first | with_reducible exact HS4.out | with_reducible refine RowAt.setFar ?_ _ _ (fun x e => by have := HE3.out.2.2.2 x e; simp; omega) | with_reducible refine RowAt.drew ?_ | with_reducible refine RowAt.gr ?_ ((Gr.refl _).drewN _))
  | false =>
   obtain rfl : CE = 90 := HCE.out
   obtain ⟨tb, off, rfl, htb, t0, t1, t2⟩ := (HT.out.gr HG4.out) i HP.out.2.1
   rw [<- Df.tk_get T i HP.out.2.1] at t0 t1 t2
   generalize hx : tk T i = x at *
   obtain ⟨xk, xt, xp⟩ := x
   simp only at *
   have HXX := Lib.hid hx
   clear hx
   go_wp2
   go_region
   go_wp2
   refine bodyPost_ret (v := .tuple #[.agg #[.string ⟨#[]⟩, .slice none 0 0], .int .i64 0, .agg #[.int .i64 90, .int .i64 xp]]) (by simp [results, Tryz.results116, go_sem, *]) rfl ⟨fun h => (by cases h), fun _ _ => ?_, fun _ h => (by rw [HDB.out] at h; cases h)⟩
   rw [HXX.out]
   refine ⟨none, 0, rfl, RowAt.nil, by simp, (fun x e => by cases e), ?_⟩
   have hg4 := HG4.out
   exact (by (with_reducible repeat' (first | exact Gr.refl _ | refine Gr.set ?_ _ ?_ _ | refine Gr.alloc ?_ | refine Gr.drew ?_ | refine Gr.trans ?_ (by assumption))) <;> (first | (simp; done) | (simp; omega) | omega))

theorem take_size {T : List Tok} (hT : Gd T) (i : Nat) : (defN T i).size <= 16 := takeV_size hT _ 1
theorem dParse_any (T : List Tok) (ad : Option Addr) (cap : Nat) (at' : Int) (w : World) (hT : ToksAt w ad T) (hc : T.length <= cap) (hn : T.length <= 5000) (hz : ∀ x ∈ T, x.t.size <= 9223372036854775807) :
  Calls Tryz.prog 116 #[.slice ad T.length cap, .int .i64 at'] w fun e w' => PaR w (pN T at') (pL T at') (pT T at') (pE T at') (pA T at') e w' := by
 by_cases h80 : ckE T = 80
 ·have e1 : pE T at' = 80 := by unfold Df.pE; rw [if_pos h80]
  have e2 : pA T at' = 0 := by unfold Df.pA; rw [if_pos h80]
  have e3 : pT T at' = 0 := by unfold Df.pT; rw [e1]; rfl
  have e4 : pN T at' = ⟨#[]⟩ := by unfold Df.pN; rw [e1]; rfl
  have e5 : pL T at' = [] := by unfold Df.pL; rw [e1]; rfl
  rw [e1, e2, e3, e4, e5]
  have := dParse_bad T ad cap at' w hT hc hn hz (Or.inl h80)
  rw [if_pos h80] at this
  exact this
 ·by_cases hat : 0 <= at' /\ at' < T.length
  ·obtain ⟨i, rfl⟩ : ∃ i : Nat, at' = (i : Int) := ⟨at'.toNat, by omega⟩
   have hi : i < T.length := by omega
   have hG := Df.gd_of h80
   obtain ⟨h1, h2, h3⟩ := Df.def_same hG i hi
   cases ho : (prs T i).2 with
   | none =>
    obtain ⟨M, hM⟩ := h2 ho
    have e1 : pE T (i : Int) = 81 := by unfold Df.pE; rw [if_neg h80, if_pos hat, Int.toNat_natCast, ho]
    have e2 : pA T (i : Int) = (tk T (prs T i).1).p := by unfold Df.pA; rw [if_neg h80, if_pos hat, Int.toNat_natCast, ho]
    have e3 : pT T (i : Int) = 0 := by unfold Df.pT; rw [e1]; rfl
    have e4 : pN T (i : Int) = ⟨#[]⟩ := by unfold Df.pN; rw [e1]; rfl
    have e5 : pL T (i : Int) = [] := by unfold Df.pL; rw [e1]; rfl
    rw [e1, e2, e3, e4, e5]
    refine (dParse_good T ad cap i w hT hc hn hz h80 hi (fun h => by rw [hM] at h; cases h) (take_size hG i)).mono ?_
    rintro e w' ⟨q1, _, _⟩
    have := q1 (by rw [hM])
    rwa [hM] at this
   | some x =>
    obtain ⟨nm, L⟩ := x
    obtain ⟨hF, hN⟩ := h1 nm L ho
    obtain ⟨p1, p2⟩ := prs_in hG ho
    have hch : pE T (i : Int) = chE nm L := by unfold Df.pE; rw [if_neg h80, if_pos hat, Int.toNat_natCast, ho]
    have hpa : pA T (i : Int) = if defB nm L = true then 0 else (tk T i).p := by unfold Df.pA; rw [if_neg h80, if_pos hat, Int.toNat_natCast, ho]
    have hgo := dParse_good T ad cap i w hT hc hn hz h80 hi (fun _ => by rw [hF]; exact p1) (take_size hG i)
    cases hd : defB nm L with
    | true =>
     have e1 : pE T (i : Int) = 0 := by rw [hch]; exact Df.ch_yes hd
     have e2 : pA T (i : Int) = 0 := by rw [hpa, hd]; rfl
     have e3 : pT T (i : Int) = ((prs T i).1 : Int) := by unfold Df.pT; rw [e1, if_pos rfl, Int.toNat_natCast]
     have e4 : pN T (i : Int) = nm := by unfold Df.pN; rw [e1, if_pos rfl, Int.toNat_natCast, ho]
     have e5 : pL T (i : Int) = L := by unfold Df.pL; rw [e1, if_pos rfl, Int.toNat_natCast, ho]
     rw [e1, e2, e3, e4, e5]
     refine hgo.mono ?_
     rintro e w' ⟨_, _, q3⟩
     rw [hF, hN] at q3
     exact q3 rfl hd
    | false =>
     have e1 : pE T (i : Int) = 90 := by rw [hch]; exact Df.ch_no hd
     have e2 : pA T (i : Int) = (tk T i).p := by rw [hpa, hd]; rfl
     have e3 : pT T (i : Int) = 0 := by unfold Df.pT; rw [e1]; rfl
     have e4 : pN T (i : Int) = ⟨#[]⟩ := by unfold Df.pN; rw [e1]; rfl
     have e5 : pL T (i : Int) = [] := by unfold Df.pL; rw [e1]; rfl
     rw [e1, e2, e3, e4, e5]
     refine hgo.mono ?_
     rintro e w' ⟨_, q2, _⟩
     rw [hF, hN] at q2
     exact q2 rfl hd
  ·have e1 : pE T at' = 2 := by unfold Df.pE; rw [if_neg h80, if_neg hat]
   have e2 : pA T at' = 0 := by unfold Df.pA; rw [if_neg h80, if_neg hat]
   have e3 : pT T at' = 0 := by unfold Df.pT; rw [e1]; rfl
   have e4 : pN T at' = ⟨#[]⟩ := by unfold Df.pN; rw [e1]; rfl
   have e5 : pL T at' = [] := by unfold Df.pL; rw [e1]; rfl
   rw [e1, e2, e3, e4, e5]
   have := dParse_bad T ad cap at' w hT hc hn hz (Or.inr hat)
   rw [if_neg h80] at this
   exact this
end Go.Proofs.YthaadiclopoamaaGreatDoor
/- lexic: Scan. -/
set_option maxRecDepth 100000
set_option maxHeartbeats 8000000
namespace Go.Proofs.YthaadiclopoamaaGreatDoor
open Go.RowKit
open Lex (Tok S scF scA scT)

theorem sc_big {s : ByteArray} (h : 2000 < s.size) : scF s.data.toList = 3 /\ scA s.data.toList = 0 /\ scT s.data.toList = [] := by
 have hl : s.data.toList.length = s.size := by simp
 unfold Lex.scF Lex.scA Lex.scT
 rw [hl, if_pos h, if_pos h, if_pos h]; exact ⟨rfl, rfl, rfl⟩
theorem sc_yes {s : ByteArray} (h : ¬ 2000 < s.size) (h2 : (S s.data.toList 0).2 = none) : scF s.data.toList = 0 /\ scA s.data.toList = 0 /\ scT s.data.toList = (S s.data.toList 0).1 := by
 have hl : s.data.toList.length = s.size := by simp
 unfold Lex.scF Lex.scA Lex.scT
 rw [hl, if_neg h, if_neg h, if_neg h, h2]; exact ⟨rfl, rfl, rfl⟩
theorem sc_no {s : ByteArray} (h : ¬ 2000 < s.size) {p : Nat} (h2 : (S s.data.toList 0).2 = some p) : scF s.data.toList = 80 /\ scA s.data.toList = p /\ scT s.data.toList = [] := by
 have hl : s.data.toList.length = s.size := by simp
 unfold Lex.scF Lex.scA Lex.scT
 rw [hl, if_neg h, if_neg h, if_neg h, h2]; exact ⟨rfl, rfl, rfl⟩

theorem Scan_any (s : ByteArray) (w : World) : Calls Tryz.prog 115 #[.string s] w fun e w' => ∃ ad cap, e = .returned (.tuple #[.slice ad (scT s.data.toList).length cap, .agg #[.int .i64 (scF s.data.toList), .int .i64 (scA s.data.toList)]]) /\ (scT s.data.toList).length <= cap /\ ToksAt w' ad (scT s.data.toList) /\ (∀ a, ad = some a -> w.heap.size <= a.block) /\ Gr w w' := by
 by_cases hb : 2000 < s.size
 ·obtain ⟨h1, h2, h3⟩ := sc_big hb
  rw [h1, h2, h3]
  have hbi : (2000 : Int) < (s.size : Int) := by omega
  clear h1 h2 h3
  go_enter Tryz.func115, Tryz.ntmps115
  go_wp2
  exact bodyPost_ret (v := .tuple #[.slice none 0 0, .agg #[.int .i64 3, .int .i64 0]]) (by simp [results, Tryz.results115, go_sem]) rfl ⟨none, 0, rfl, by simp, ToksAt.nil, (fun a e => by cases e), (by (with_reducible repeat' (first | exact Gr.refl _ | refine Gr.set ?_ _ ?_ _ | refine Gr.alloc ?_ | refine Gr.drew ?_ | refine Gr.trans ?_ (by assumption))) <;> (first | (simp; done) | (simp; omega) | omega))⟩
 have hbi : ¬ (2000 : Int) < (s.size : Int) := by omega
 have HS : Hid (∀ (b : Nat) (w' : World), ScAt w' b s 0 (.slice none 0 0) -> Calls Tryz.prog 132 #[.pointer (some ⟨b, 0, none⟩)] w' fun e w2 => ∃ x y : Int, e = .returned (.agg #[.int .i64 x, .int .i64 y]) /\ w'.grownBy w2 (some b) /\
   (((S s.data.toList 0).2 = none /\ x = 0 /\ y = 0 /\ ∃ ad cap, ScAt w2 b s s.size (.slice ad (S s.data.toList 0).1.length cap) /\ (S s.data.toList 0).1.length <= cap /\ ToksAt w2 ad (S s.data.toList 0).1 /\ ∀ a, ad = some a -> w'.heap.size <= a.block) ∨ (∃ p : Nat, (S s.data.toList 0).2 = some p /\ x = 80 /\ y = p))) := fun b w' h => scan_any b s w' h (by omega)
 have HC0 : Hid (ScAt ((w.alloc (.cells #[.int .i64 0, .int .i64 0] 136)).alloc (.cells #[.string s, .int .i64 0, .slice none 0 0] 186)) (w.heap.size + 1) s 0 (.slice none 0 0)) :=
  ⟨⟨by simp, by simp, by simp [go_sem], by simp⟩, by simp, by simp [go_sem]⟩
 have HF0 : Hid (FaAt ((w.alloc (.cells #[.int .i64 0, .int .i64 0] 136)).alloc (.cells #[.string s, .int .i64 0, .slice none 0 0] 186)) w.heap.size 0 0) := (FaAt.new w 0 0 136 _ rfl).gr (Gr.refl _).alloc
 have HY := @sc_yes s hb
 have HN := @sc_no s hb
 generalize scT s.data.toList = RT at *
 generalize scF s.data.toList = RF at *
 generalize scA s.data.toList = RA at *
 generalize S s.data.toList 0 = SS at *
 have HY' : Hid (SS.2 = none -> RF = 0 /\ RA = 0 /\ RT = SS.1) := HY
 have HN' : Hid (∀ {p : Nat}, SS.2 = some p -> RF = 80 /\ RA = p /\ RT = []) := HN
 clear HY HN hb
 go_enter Tryz.func115, Tryz.ntmps115
 go_wp2_with fail
 refine (HS.out _ _ HC0.out).mono ?_
 rintro e w1 ⟨x, y, rfl, hgb, hor⟩
 have HF1 : Hid (FaAt w1 w.heap.size 0 0) := HF0.out.grown hgb (by simp)
 have HG1 : Hid (Gr w w1) := Gr.grown (Gr.refl w).alloc.alloc hgb (fun g e => by cases e; omega)
 obtain ⟨r0, r1, f0, f1, rl⟩ := HF1.out
 rcases hor with ⟨h1, rfl, rfl, ad, cap, hsc, hcp, htk, hfr⟩ | ⟨p, h1, rfl, rfl⟩
 ·obtain ⟨rfl, rfl, rfl⟩ := HY'.out h1
  have HT1 : Hid (ToksAt w1 ad SS.1) := htk
  have HFR : Hid (∀ a, ad = some a -> w.heap.size + 2 <= a.block) := fun a e => by have := hfr a e; simp at this; omega
  obtain ⟨⟨q0, q1, qf1, ql⟩, q2, qf2⟩ := hsc
  clear htk hfr h1 hgb
  go_wp2
  refine bodyPost_ret (v := .tuple #[.slice ad SS.1.length cap, .agg #[.int .i64 0, .int .i64 0]]) (by simp [results, Tryz.results115, go_sem, *]) rfl ⟨ad, cap, rfl, hcp, ?_, (fun a e => by have := HFR.out a e; omega), ?_⟩
  ·exact ((HT1.out.setFar _ _ (fun a e => by have := HFR.out a e; simp; omega)).setFar _ _ (fun a e => by have := HFR.out a e; simp; omega)).gr (Gr.refl _).alloc
  ·have hg1 := HG1.out
   exact (by (with_reducible repeat' (first | exact Gr.refl _ | refine Gr.set ?_ _ ?_ _ | refine Gr.alloc ?_ | refine Gr.drew ?_ | refine Gr.trans ?_ (by assumption))) <;> (first | (simp; done) | (simp; omega) | omega))
 ·obtain ⟨rfl, rfl, rfl⟩ := HN'.out h1
  clear h1 hgb
  go_wp2
  go_region
  go_wp2
  refine bodyPost_ret (v := .tuple #[.slice none 0 0, .agg #[.int .i64 80, .int .i64 (p : Int)]]) (by simp [results, Tryz.results115, go_sem, *]) rfl ⟨none, 0, rfl, by simp, ToksAt.nil, (fun a e => by cases e), ?_⟩
  have hg1 := HG1.out
  exact (by (with_reducible repeat' (first | exact Gr.refl _ | refine Gr.set ?_ _ ?_ _ | refine Gr.alloc ?_ | refine Gr.drew ?_ | refine Gr.trans ?_ (by assumption))) <;> (first | (simp; done) | (simp; omega) | omega))
end Go.Proofs.YthaadiclopoamaaGreatDoor
/- Parse: the id that may be whose Show a text is. -/
set_option maxRecDepth 100000
set_option maxHeartbeats 8000000
namespace Go.Proofs.YthaadiclopoamaaGreatDoor
open Go.RowKit

/- is a text the text of the id that is read from it? -/
def parB (l : List UInt8) : Bool := Idn.mayB (readR l).1 (readR l).2 (readL l) && decide (Idn.showT (readR l).1 (readR l).2 (readL l) = l)

theorem parse_new (s : ByteArray) (w : World) (hs : s.size <= 140737488355328) (he : Env w) :
  Calls Tryz.prog 113 #[.string s] w fun e w' =>
   ((parB s.data.toList = true /\ ∃ ad2 cap2, e = .returned (.tuple #[.agg #[.int .i64 (readR s.data.toList).1, .int .i64 (readR s.data.toList).2, .slice ad2 (readL s.data.toList).length cap2], .int .i64 0]) /\ (readL s.data.toList).length <= cap2 /\ HopsAt w' ad2 (readL s.data.toList) /\ ∀ a, ad2 = some a -> w.heap.size <= a.block) ∨
   (parB s.data.toList = false /\ e = .returned (.tuple #[.agg #[.int .i64 0, .int .i64 0, .slice none 0 0], .int .i64 30]))) /\ Gr w w' := by
 have HR : Hid (∀ w', Gr w w' -> Calls Tryz.prog 130 #[.string s] w' fun e w2 => ∃ ad2 cap2, e = .returned (.agg #[.int .i64 (readR s.data.toList).1, .int .i64 (readR s.data.toList).2, .slice ad2 (readL s.data.toList).length cap2]) /\ (readL s.data.toList).length <= cap2 /\ HopsAt w2 ad2 (readL s.data.toList) /\ (∀ a, ad2 = some a -> w'.heap.size <= a.block) /\ Gr w' w2) := fun w' g => read_any s w' hs (he.gr g)
 have h4 : (readL s.data.toList).length <= 4 := readH_len 4 _ _
 have HPB : Hid (parB s.data.toList = (Idn.mayB (readR s.data.toList).1 (readR s.data.toList).2 (readL s.data.toList) && decide (Idn.showT (readR s.data.toList).1 (readR s.data.toList).2 (readL s.data.toList) = s.data.toList))) := rfl
 obtain ⟨⟨r, n⟩, hrn⟩ : ∃ x, readR s.data.toList = x := ⟨_, rfl⟩
 obtain ⟨L, hL⟩ : ∃ x, readL s.data.toList = x := ⟨_, rfl⟩
 rw [hrn, hL] at HR HPB
 rw [hL] at h4
 rw [hrn, hL]
 simp only at HR HPB ⊢
 have HS : Hid (∀ (w' : World) (ad2 : Option Addr) (cap2 : Nat), Gr w w' -> HopsAt w' ad2 L -> Calls Tryz.prog 22 #[.agg #[.int .i64 r, .int .i64 n, .slice ad2 L.length cap2]] w' fun e w2 => ((Idn.mayB r n L = true /\ e = .returned (.tuple #[.string ⟨(Idn.showT r n L).toArray⟩, .int .i64 0])) ∨ (Idn.mayB r n L = false /\ e = .returned (.tuple #[.string ⟨#[]⟩, .int .i64 30]))) /\ Gr w' w2) := fun w' ad2 cap2 g h => show_any r n L ad2 cap2 w' h (by omega) (he.gr g)
 clear hrn hL he
 go_enter Tryz.func113, Tryz.ntmps113
 go_wp2_with fail
 refine (HR.out _ (by repeat(first|exact Gr.r _|refine Gr.a ?_|refine Gr.d ?_|refine Gr.t ?_ (by assumption)))).mono ?_
 rintro e1 w1 ⟨ad2, cap2, rfl, hcp, hia, hfr, hg1⟩
 have HB : Hid (BoxAt w1 w.heap.size (.int .i64 0) (.int .i64 0) (.slice none 0 0)) := (BoxAt.new w _ _ _ 24 _ rfl).gr hg1
 have HI : Hid (HopsAt w1 ad2 L) := hia
 have HFR : Hid (∀ a, ad2 = some a -> w.heap.size + 1 <= a.block) := fun a e => by have := hfr a e; simpa using this
 clear hia hfr
 go_wp2_with fail
 refine (HS.out _ _ _ ?_ ?_).mono ?_
 ·exact (by repeat(first|exact Gr.r _|refine Gr.a ?_|refine Gr.d ?_|refine Gr.t ?_ (by assumption)))
 ·exact HI.out.gr (by repeat(first|exact Gr.r _|refine Gr.a ?_|refine Gr.d ?_|refine Gr.t ?_ (by assumption)))
 rintro e2 w2 ⟨hcase, hg2⟩
 obtain ⟨b0, b1, b2, f0, f1, f2, b6⟩ := (HB.out.gr (Gr.refl _).alloc).gr hg2
 obtain ⟨c0, c1, c2, k0, k1, k2, c6⟩ := (BoxAt.new w1 (.int .i64 r) (.int .i64 n) (.slice ad2 L.length cap2) 24 _ rfl).gr hg2
 rcases hcase with ⟨hm, rfl⟩ | ⟨hm, rfl⟩
 ·by_cases hq : Idn.showT r n L = s.data.toList
  ·have HP : Hid (parB s.data.toList = true) := by show _ = _; rw [HPB.out, hm]; simp [hq]
   have heq : (⟨(Idn.showT r n L).toArray⟩ : ByteArray) = s := by rw [hq]
   rw [heq]
   clear hm hq heq HPB
   have HI2 : Hid (HopsAt w2 ad2 L) := (HI.out.alloc).gr hg2
   go_wp2
   have hia := HI2.out
   have hfr := HFR.out
   exact bodyPost_ret (v := .tuple #[.agg #[.int .i64 r, .int .i64 n, .slice ad2 L.length cap2], .int .i64 0]) (by simp [results, Tryz.results113, go_sem, b0, b1, b2]) rfl ⟨Or.inl ⟨HP.out, ad2, cap2, rfl, hcp, (by (repeat' (first | with_reducible exact hia | with_reducible refine HopsAt.set ?_ _ _ ?_ | with_reducible refine HopsAt.alloc ?_ | with_reducible refine HopsAt.drew ?_)) <;> (intro a e; have := hfr a e; simp at this ⊢; omega)), fun a e => by have := HFR.out a e; omega⟩, (by (with_reducible repeat' (first | exact Gr.refl _ | refine Gr.set ?_ _ ?_ _ | refine Gr.alloc ?_ | refine Gr.drew ?_ | refine Gr.trans ?_ (by assumption))) <;> (first | (simp; done) | (simp; omega) | omega))⟩
  ·have HP : Hid (parB s.data.toList = false) := by show _ = _; rw [HPB.out]; simp [hq]
   have hne : ((⟨(Idn.showT r n L).toArray⟩ : ByteArray).toList == s.toList) = false := by
    rw [ByteArray.toList_eq, ByteArray.toList_eq]
    simpa using hq
   generalize (⟨(Idn.showT r n L).toArray⟩ : ByteArray) = t at *
   clear HPB hm hq
   go_wp2
   exact bodyPost_ret (v := .tuple #[.agg #[.int .i64 0, .int .i64 0, .slice none 0 0], .int .i64 30]) (by simp [results, Tryz.results113, go_sem, b0, b1, b2]) rfl ⟨Or.inr ⟨HP.out, rfl⟩, (by (with_reducible repeat' (first | exact Gr.refl _ | refine Gr.set ?_ _ ?_ _ | refine Gr.alloc ?_ | refine Gr.drew ?_ | refine Gr.trans ?_ (by assumption))) <;> (first | (simp; done) | (simp; omega) | omega))⟩
 ·have HP : Hid (parB s.data.toList = false) := by show _ = _; rw [HPB.out, hm]; rfl
  clear HPB hm
  go_wp2
  exact bodyPost_ret (v := .tuple #[.agg #[.int .i64 0, .int .i64 0, .slice none 0 0], .int .i64 30]) (by simp [results, Tryz.results113, go_sem, b0, b1, b2]) rfl ⟨Or.inr ⟨HP.out, rfl⟩, (by (with_reducible repeat' (first | exact Gr.refl _ | refine Gr.set ?_ _ ?_ _ | refine Gr.alloc ?_ | refine Gr.drew ?_ | refine Gr.trans ?_ (by assumption))) <;> (first | (simp; done) | (simp; omega) | omega))⟩
end Go.Proofs.YthaadiclopoamaaGreatDoor
