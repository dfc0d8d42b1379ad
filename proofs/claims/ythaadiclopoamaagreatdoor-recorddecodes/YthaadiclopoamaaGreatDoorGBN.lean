/- Parts of these proofs, laid together. -/
import Derived.Test.YthaadiclopoamaaGreatDoorGBM
import Derived.Test.YthaadiclopoamaaGreatDoorGBL
import Derived.Test.YthaadiclopoamaaGreatDoorGM
/- The document's Parse of definitions. -/
set_option maxRecDepth 100000
set_option maxHeartbeats 8000000
namespace Go.Proofs.YthaadiclopoamaaGreatDoor
open Go.RowKit
open Lex (Tok ckE)
open Df (Stp tk isT one stps prs Gd defB chE pE pA pT pN pL)

theorem refParse_bad (T : List Tok) (ad : Option Addr) (cap : Nat) (at' : Int) (w : World) (hT : ToksAt w ad T) (hn : T.length <= 5000) (hz : ∀ x ∈ T, x.t.size <= 9223372036854775807) (h : ckE T = 80 ∨ ¬ (0 <= at' /\ at' < T.length)) :
  Calls Tryz.prog 119 #[.slice ad T.length cap, .int .i64 at'] w fun e w' => PaR w ⟨#[]⟩ [] 0 (if ckE T = 80 then 80 else 2) 0 e w' := by
 have HC : Hid (∀ w', Gr w w' -> Calls Tryz.prog 141 #[.slice ad T.length cap] w' fun e w2 => e = .returned (.int .i64 (ckE T)) /\ Gr w' w2) := fun w' g => lRefCheck_any T ad cap w' (hT.gr g) hn hz
 have HA0 := Lib.hid (TwoAt.new w (.string ⟨#[]⟩) (.slice none 0 0) 27 _ rfl)
 have HB0 := Lib.hid (TwoAt.new (w.alloc (.cells #[.string ⟨#[]⟩, .slice none 0 0] 27)) (.int .i64 0) (.int .i64 0) 136 (w.heap.size + 1) (by simp))
 by_cases h80 : ckE T = 80
 ·rw [if_pos h80]
  rw [h80] at HC
  clear hT hz h h80
  go_enter Tryz.func119, Tryz.ntmps119
  go_wp2_with fail
  refine (HC.out _ (by repeat(first|exact Gr.r _|refine Gr.a ?_|refine Gr.d ?_|refine Gr.t ?_ (by assumption)))).mono ?_
  rintro e w1 ⟨rfl, hg⟩
  have HG1 : Hid (Gr w w1) := (Gr.refl _).alloc.alloc.trans hg
  obtain ⟨a0, a1, af0, af1, al⟩ := (HA0.out.gr (Gr.refl _).alloc).gr hg
  obtain ⟨b0, b1, bf0, bf1, bl⟩ := HB0.out.gr hg
  clear hg
  go_wp2
  refine bodyPost_ret (v := .tuple #[.agg #[.string ⟨#[]⟩, .slice none 0 0], .int .i64 0, .agg #[.int .i64 80, .int .i64 0]]) (by simp [results, Tryz.results119, go_sem, *]) rfl ⟨none, 0, rfl, RowAt.nil, by simp, (fun x e => by cases e), ?_⟩
  have hg1 := HG1.out
  exact (by (with_reducible repeat' (first | exact Gr.refl _ | refine Gr.set ?_ _ ?_ _ | refine Gr.alloc ?_ | refine Gr.drew ?_ | refine Gr.trans ?_ (by assumption))) <;> (first | (simp; done) | (simp; omega) | omega))
 ·rw [if_neg h80]
  have hb : (ckE T == 80) = false := by simpa using h80
  have hat : at' < 0 ∨ (T.length : Int) <= at' := by
   rcases h with h | h
   ·exact absurd h h80
   ·omega
  generalize ckE T = CK at *
  clear hT hz h h80
  by_cases hneg : at' < 0
  ·clear hat
   go_enter Tryz.func119, Tryz.ntmps119
   go_wp2_with fail
   refine (HC.out _ (by repeat(first|exact Gr.r _|refine Gr.a ?_|refine Gr.d ?_|refine Gr.t ?_ (by assumption)))).mono ?_
   rintro e w1 ⟨rfl, hg⟩
   have HG1 : Hid (Gr w w1) := (Gr.refl _).alloc.alloc.trans hg
   obtain ⟨a0, a1, af0, af1, al⟩ := (HA0.out.gr (Gr.refl _).alloc).gr hg
   obtain ⟨b0, b1, bf0, bf1, bl⟩ := HB0.out.gr hg
   clear hg
   go_wp2
   refine bodyPost_ret (v := .tuple #[.agg #[.string ⟨#[]⟩, .slice none 0 0], .int .i64 0, .agg #[.int .i64 2, .int .i64 0]]) (by simp [results, Tryz.results119, go_sem, *]) rfl ⟨none, 0, rfl, RowAt.nil, by simp, (fun x e => by cases e), ?_⟩
   have hg1 := HG1.out
   exact (by (with_reducible repeat' (first | exact Gr.refl _ | refine Gr.set ?_ _ ?_ _ | refine Gr.alloc ?_ | refine Gr.drew ?_ | refine Gr.trans ?_ (by assumption))) <;> (first | (simp; done) | (simp; omega) | omega))
  ·have hge : (T.length : Int) <= at' := by omega
   clear hat
   go_enter Tryz.func119, Tryz.ntmps119
   go_wp2_with fail
   refine (HC.out _ (by repeat(first|exact Gr.r _|refine Gr.a ?_|refine Gr.d ?_|refine Gr.t ?_ (by assumption)))).mono ?_
   rintro e w1 ⟨rfl, hg⟩
   have HG1 : Hid (Gr w w1) := (Gr.refl _).alloc.alloc.trans hg
   obtain ⟨a0, a1, af0, af1, al⟩ := (HA0.out.gr (Gr.refl _).alloc).gr hg
   obtain ⟨b0, b1, bf0, bf1, bl⟩ := HB0.out.gr hg
   clear hg
   go_wp2
   refine bodyPost_ret (v := .tuple #[.agg #[.string ⟨#[]⟩, .slice none 0 0], .int .i64 0, .agg #[.int .i64 2, .int .i64 0]]) (by simp [results, Tryz.results119, go_sem, *]) rfl ⟨none, 0, rfl, RowAt.nil, by simp, (fun x e => by cases e), ?_⟩
   have hg1 := HG1.out
   exact (by (with_reducible repeat' (first | exact Gr.refl _ | refine Gr.set ?_ _ ?_ _ | refine Gr.alloc ?_ | refine Gr.drew ?_ | refine Gr.trans ?_ (by assumption))) <;> (first | (simp; done) | (simp; omega) | omega))

/- where the loop stands -/
structure PrI (w : World) (D : Nat) (T : List Tok) (nm : ByteArray) (F : Nat × Option (List Stp)) (wr : World) (j : Nat) (L : List Stp) (a : Option Addr) (c f : Nat) : Prop where
 re : TwoAt wr w.heap.size (.string ⟨#[]⟩) (.slice none 0 0)
 fa : TwoAt wr (w.heap.size + 1) (.int .i64 0) (.int .i64 0)
 dd : TwoAt wr D (.string nm) (.slice a L.length c)
 own : wr.ownsRow (D + 1) 94 7 (.slice a L.length c) L.length (L.flatMap stpC)
 gr : Gr w wr
 nb : w.heap.size + 1 < D
 lj : j < T.length
 ll : L.length <= j
 fu : T.length - j < f
 eq : stps T f j L = F
def PrV (w : World) (T : List Tok) (i : Nat) (nm : ByteArray) (F : Nat × Option (List Stp)) (e : Ending) (w' : World) : Prop :=
 (F.2 = none -> PaR w ⟨#[]⟩ [] 0 81 (tk T F.1).p e w') /\ (∀ L, F.2 = some L -> defB nm L = false -> PaR w ⟨#[]⟩ [] 0 90 (tk T i).p e w') /\ (∀ L, F.2 = some L -> defB nm L = true -> PaR w nm L (F.1 : Int) 0 0 e w')

theorem refParse_loop (T : List Tok) (ad : Option Addr) (cap : Nat) (i : Nat) (w : World) (hT : ToksAt w ad T) (hn : T.length <= 5000) (hz : ∀ x ∈ T, x.t.size <= 9223372036854775807) (h80 : ckE T ≠ 80) (hi : i < T.length)
  (h1 : isT (tk T i) 1 Df.wSaga = true) (h2 : (tk T (i + 1)).k = 1) (h3 : isT (tk T (i + 2)) 3 Df.gOpen = true) :
  Calls Tryz.prog 119 #[.slice ad T.length cap, .int .i64 (i : Int)] w fun e w' => PrV w T i (tk T (i + 1)).t (stps T (T.length + 1) (i + 3) []) e w' := by
 obtain ⟨i0, hi0, hz0, hz1, hz2⟩ := info_parts3 infoStp
 have hG := Df.gd_of h80
 have hn1 := hG.next (i := i) (by rw [((Df.isT_iff _ _ _).1 h1).1]; decide)
 have hn2 := hG.next (i := i + 1) (by rw [h2]; decide)
 have hn3 := hG.next (i := i + 2) (by rw [((Df.isT_iff _ _ _).1 h3).1]; decide)
 have HC : Hid (∀ w', Gr w w' -> Calls Tryz.prog 141 #[.slice ad T.length cap] w' fun e w2 => e = .returned (.int .i64 (ckE T)) /\ Gr w' w2) := fun w' g => lRefCheck_any T ad cap w' (hT.gr g) hn hz
 have HI0 : Hid (∀ w', Calls Tryz.prog 142 #[.agg #[.int .i64 (tk T i).k, .string (tk T i).t, .int .i64 (tk T i).p], .int .i64 1, .string ⟨#[115, 97, 103, 97]⟩] w' fun e w2 => e = .returned (.bool true) /\ Gr w' w2) := fun w' => by have := refIs_any (tk T i) 1 Df.wSaga w'; rw [h1] at this; exact this
 have HI2 : Hid (∀ w', Calls Tryz.prog 142 #[.agg #[.int .i64 (tk T (i + 2)).k, .string (tk T (i + 2)).t, .int .i64 (tk T (i + 2)).p], .int .i64 3, .string ⟨#[123]⟩] w' fun e w2 => e = .returned (.bool true) /\ Gr w' w2) := fun w' => by have := refIs_any (tk T (i + 2)) 3 Df.gOpen w'; rw [h3] at this; exact this
 have HIS : Hid (∀ (x : Tok) (w' : World), Calls Tryz.prog 142 #[.agg #[.int .i64 x.k, .string x.t, .int .i64 x.p], .int .i64 3, .string ⟨#[125]⟩] w' fun e w2 => e = .returned (.bool (isT x 3 Df.gShut)) /\ Gr w' w2) := fun x w' => refIs_any x 3 Df.gShut w'
 have HON : Hid (∀ (j : Nat) (w' : World), j < T.length -> Gr w w' -> Calls Tryz.prog 144 #[.slice ad T.length cap, .int .i64 (j : Int)] w' fun e w2 => OnR w' (one T j) e w2) := fun j w' hj g => refOne_any T ad cap j w' (hT.gr g) hG hj hn
 have HSY : Hid (∀ (j : Nat) (w' : World), j < T.length -> Gr w w' -> Calls Tryz.prog 143 #[.slice ad T.length cap, .int .i64 (j : Int)] w' fun e w2 => e = .returned (.tuple #[.agg #[.string ⟨#[]⟩, .slice none 0 0], .int .i64 0, .agg #[.int .i64 81, .int .i64 (tk T j).p]]) /\ Gr w' w2) := fun j w' hj g => refSyntax_any T ad cap j w' (hT.gr g) hj hn
 have HCH : Hid (∀ (L : List Stp) (a : Option Addr) (c : Nat) (w' : World), (∃ f j, stps T f j [] = (j, some L) ∨ (stps T (T.length + 1) (i + 3) []).2 = some L) -> L.length <= 5000 -> StpsAt w' a L -> Calls Tryz.prog 30 #[.agg #[.string (tk T (i + 1)).t, .slice a L.length c]] w' fun e w2 => e = .returned (.int .i64 (chE (tk T (i + 1)).t L)) /\ Gr w' w2) := fun L a c w' hex hl h => refDCheck_any _ L a c w' h (by have := hG.size (i + 1); omega) (by omega) (by
  obtain ⟨f, j, hex | hex⟩ := hex
  ·exact stps_in hG f j [] L (by simp) (by rw [hex])
  ·exact stps_in hG _ _ [] L (by simp) hex)
 obtain ⟨b, off, rfl, hb, c0, c1, c2⟩ := hT i hi
 rw [<- Df.tk_get T i hi] at c0 c1 c2
 obtain ⟨b1', off1', e1', _, d0, d1, d2⟩ := hT (i + 1) hn1
 cases e1'
 rw [<- Df.tk_get T (i + 1) hn1] at d0 d1 d2
 obtain ⟨b2', off2', e2', _, f0, f1, f2⟩ := hT (i + 2) hn2
 cases e2'
 rw [<- Df.tk_get T (i + 2) hn2] at f0 f1 f2
 have HT : Hid (ToksAt w (some ⟨b, off, none⟩) T) := hT
 have HGd := Lib.hid hG
 have HA0 := Lib.hid (TwoAt.new w (.string ⟨#[]⟩) (.slice none 0 0) 27 _ rfl)
 have HB0 := Lib.hid (TwoAt.new (w.alloc (.cells #[.string ⟨#[]⟩, .slice none 0 0] 27)) (.int .i64 0) (.int .i64 0) 136 (w.heap.size + 1) (by simp))
 have hb80 : (ckE T == 80) = false := by simpa using h80
 have e2 : ((tk T (i + 1)).k != 1) = false := by simpa using h2
 have HPP : Hid (∀ x : Tok, tk T i = x -> (tk T i).p = x.p) := fun x e => by rw [e]
 generalize hF : stps T (T.length + 1) (i + 3) [] = F at *
 have HF0 : Hid (stps T (T.length + 1) (i + 3) [] = F) := hF
 generalize ckE T = CK at *
 generalize hX : tk T i = x at *
 have HXE : Hid (tk T i = x) := hX
 generalize tk T (i + 1) = y at *
 generalize tk T (i + 2) = z at *
 obtain ⟨xk, xt, xp⟩ := x
 obtain ⟨yk, yt, yp⟩ := y
 obtain ⟨zk, zt, zp⟩ := z
 simp only at *
 clear hT hG hz h80 h1 h2 h3 hF hX HPP
 go_enter Tryz.func119, Tryz.ntmps119
 go_wp2_with fail
 refine (HC.out _ (by repeat(first|exact Gr.r _|refine Gr.a ?_|refine Gr.d ?_|refine Gr.t ?_ (by assumption)))).mono ?_
 rintro e w1 ⟨rfl, hg⟩
 have hg1 : Gr w w1 := (Gr.refl _).alloc.alloc.trans hg
 have HA1 := Lib.hid ((HA0.out.gr (Gr.refl _).alloc).gr hg)
 have HB1 := Lib.hid (HB0.out.gr hg)
 have hb1 : b < w1.heap.size := Nat.lt_of_lt_of_le hb hg1.size
 replace c0 := hg1.keep c0
 replace c1 := hg1.keep c1
 replace c2 := hg1.keep c2
 replace d0 := hg1.keep d0
 replace d1 := hg1.keep d1
 replace d2 := hg1.keep d2
 replace f0 := hg1.keep f0
 replace f1 := hg1.keep f1
 replace f2 := hg1.keep f2
 clear hg HA0 HB0 HC
 go_wp2_with fail
 refine (HI0.out _).mono ?_
 rintro e w2 ⟨rfl, hg⟩
 have hg2 : Gr w w2 := hg1.trans hg
 have HA2 := Lib.hid (HA1.out.gr hg)
 have HB2 := Lib.hid (HB1.out.gr hg)
 have hb2 : b < w2.heap.size := Nat.lt_of_lt_of_le hb hg2.size
 replace c0 := hg.keep c0
 replace c1 := hg.keep c1
 replace c2 := hg.keep c2
 replace d0 := hg.keep d0
 replace d1 := hg.keep d1
 replace d2 := hg.keep d2
 replace f0 := hg.keep f0
 replace f1 := hg.keep f1
 replace f2 := hg.keep f2
 clear hg HA1 HB1 HI0 hg1 hb1
 go_wp2_with fail
 refine (HI2.out _).mono ?_
 rintro e w3 ⟨rfl, hg⟩
 have hg3 : Gr w w3 := hg2.trans hg
 have HA3 := Lib.hid (HA2.out.gr hg)
 have HB3 := Lib.hid (HB2.out.gr hg)
 have hb3 : b < w3.heap.size := Nat.lt_of_lt_of_le hb hg3.size
 replace d0 := hg.keep d0
 replace d1 := hg.keep d1
 replace d2 := hg.keep d2
 have HI0' : Hid (PrI w w3.heap.size T yt F (w3.alloc (.cells #[.string yt, .slice none 0 0] 27)) (i + 3) [] none 0 (T.length + 1)) := ⟨HA3.out.gr (Gr.refl _).alloc, HB3.out.gr (Gr.refl _).alloc, TwoAt.new w3 _ _ 27 _ rfl, World.ownsRow_nil _ _ _ _, hg3.alloc, HB3.out.lt, by omega, by simp, by omega, HF0.out⟩
 have HB3n := HB3.out.lt
 clear hg c0 c1 c2 HA2 HB2 HI2 hg2 hb2 f0 f1 f2 HA3 HB3
 go_wp2
 go_loopw [8] (fun jv wr => ∃ (j : Nat) (L : List Stp) (a : Option Addr) (c f : Nat), jv = .int .i64 (j : Int) /\ PrI w w3.heap.size T yt F wr j L a c f) (fun jv _ => T.length - (intOf jv).toNat)
 case atStart => exact ⟨i + 3, _, _, _, _, rfl, HI0'.out⟩
 case round =>
  obtain ⟨j, L, a, c, f, rfl, hI⟩ := hrel
  have HI := Lib.hid hI
  clear hI HI0' d0 d1 d2 hb3
  obtain ⟨tb, toff, et, htb, g0, g1, g2⟩ := (HT.out.gr HI.out.gr) j HI.out.lj
  cases et
  rw [<- Df.tk_get T j HI.out.lj] at g0 g1 g2
  have HIj : Hid (∀ w', Calls Tryz.prog 142 #[.agg #[.int .i64 (tk T j).k, .string (tk T j).t, .int .i64 (tk T j).p], .int .i64 3, .string ⟨#[125]⟩] w' fun e w2 => e = .returned (.bool (isT (tk T j) 3 Df.gShut)) /\ Gr w' w2) := HIS.out (tk T j)
  have hlj := HI.out.lj
  have HTE : Hid (F = if isT (tk T j) 3 Df.gShut = true then (j + 1, some L) else match one T j with
   | (j', none) => (j', none)
   | (j', some s) => stps T (f - 1) j' (L ++ [s])) := by
   have h1 := HI.out.eq
   obtain ⟨f', rfl⟩ : ∃ f', f = f' + 1 := ⟨f - 1, by have := HI.out.fu; omega⟩
   rw [<- h1]; rfl
  generalize isT (tk T j) 3 Df.gShut = SB at *
  generalize tk T j = v at *
  obtain ⟨vk, vt, vp⟩ := v
  simp only at *
  go_wp2_with fail
  refine (HIj.out _).mono ?_
  rintro e w4 ⟨rfl, hg⟩
  have hg4 : Gr w w4 := HI.out.gr.trans hg
  have HR4 := Lib.hid (HI.out.re.gr hg)
  have HE4 := Lib.hid (HI.out.fa.gr hg)
  have HD4 := Lib.hid (HI.out.dd.gr hg)
  have HO4 := Lib.hid (HI.out.own.kept (grown_gr none hg) (own_or _))
  have hb4 : b < w4.heap.size := Nat.lt_of_lt_of_le htb hg.size
  clear hg g0 g1 g2 htb
  have nb := HB3n
  have n1 : ¬ w3.heap.size = w.heap.size := by omega
  have n2 : ¬ w.heap.size = w3.heap.size := by omega
  have n3 : ¬ w3.heap.size = w.heap.size + 1 := by omega
  have n4 : ¬ w.heap.size + 1 = w3.heap.size := by omega
  clear nb
  cases SB with
  | true =>
   have HFE : Hid (F = (j + 1, some L)) := HTE.out
   obtain ⟨a', c', ec, _, _, hst4, hab, _⟩ := own_row HO4.out
   cases ec
   have HS4 := Lib.hid hst4
   have HAB : Hid (∀ x, a = some x -> w3.heap.size + 1 <= x.block) := hab
   have HCk : Hid (∀ w', StpsAt w' a L -> Calls Tryz.prog 30 #[.agg #[.string yt, .slice a L.length c]] w' fun e w2 => e = .returned (.int .i64 (chE yt L)) /\ Gr w' w2) := fun w' h => HCH.out L a c w' ⟨0, 0, Or.inr (by rw [HFE.out])⟩ (by have := HI.out.ll; omega) h
   have HLC : Hid (L.length <= c) := by
    have := HO4.out
    obtain ⟨_, _, e, h, _⟩ := own_row this
    cases e; exact h
   have HCE : Hid (chE yt L = if defB yt L = true then 0 else 90) := rfl
   generalize chE yt L = CE at *
   generalize hDB : defB yt L = DB at *
   have HDB := Lib.hid hDB
   obtain ⟨d0, d1, _, _, dl⟩ := HD4.out
   clear hst4 hab hDB HTE HIj
   go_wp2_with fail
   refine (HCk.out _ HS4.out).mono ?_
   rintro e w5 ⟨rfl, hg⟩
   have hg5 : Gr w w5 := hg4.trans hg
   have HS5 := Lib.hid (HS4.out.gr hg)
   obtain ⟨r0, r1, rf0, rf1, rl⟩ := HR4.out.gr hg
   obtain ⟨s0, s1, sf0, sf1, sl⟩ := HE4.out.gr hg
   obtain ⟨q0, q1, qf0, qf1, ql⟩ := HD4.out.gr hg
   clear hg d0 d1 dl hg4
   cases DB with
   | true =>
    obtain rfl : CE = 0 := HCE.out
    go_wp2
    refine bodyPost_ret (v := .tuple #[.agg #[.string yt, .slice a L.length c], .int .i64 ((j : Int) + 1), .agg #[.int .i64 0, .int .i64 0]]) (by simp [results, Tryz.results119, go_sem, *]) rfl ?_
    rw [HFE.out]
    refine ⟨fun h => (by cases h), fun M h h2 => ?_, fun M h h2 => ?_⟩
    ·cases h; rw [HDB.out] at h2; cases h2
    ·cases h
     refine ⟨a, c, rfl, ?_, HLC.out, fun x e => by have := HAB.out x e; omega, (by (with_reducible repeat' (first | exact Gr.refl _ | refine Gr.set ?_ _ ?_ _ | refine Gr.alloc ?_ | refine Gr.drew ?_ | refine Gr.trans ?_ (by assumption))) <;> (first | (simp; done) | (simp; omega) | omega))⟩
     repeat (first | with_reducible exact HS5.out | with_reducible refine RowAt.setFar ?_ _ _ (fun x e => by have := HAB.out x e; simp; omega) | with_reducible refine RowAt.drew ?_ | with_reducible refine RowAt.alloc ?_)
   | false =>
    obtain rfl : CE = 90 := HCE.out
    obtain ⟨tb', toff', et', htb, t0, t1, t2⟩ := (HT.out.gr hg5) i hi
    cases et'
    rw [<- Df.tk_get T i hi, HXE.out] at t0 t1 t2
    go_wp2
    go_region
    go_wp2
    refine bodyPost_ret (v := .tuple #[.agg #[.string ⟨#[]⟩, .slice none 0 0], .int .i64 0, .agg #[.int .i64 90, .int .i64 xp]]) (by simp [results, Tryz.results119, go_sem, *]) rfl ?_
    rw [HFE.out]
    refine ⟨fun h => (by cases h), fun M h h2 => ?_, fun M h h2 => ?_⟩
    ·rw [HXE.out]
     exact ⟨none, 0, rfl, RowAt.nil, by simp, (fun x e => by cases e), (by (with_reducible repeat' (first | exact Gr.refl _ | refine Gr.set ?_ _ ?_ _ | refine Gr.alloc ?_ | refine Gr.drew ?_ | refine Gr.trans ?_ (by assumption))) <;> (first | (simp; done) | (simp; omega) | omega))⟩
    ·cases h; rw [HDB.out] at h2; cases h2
  | false =>
   obtain ⟨l1, l2, l3⟩ := Df.one_le HGd.out j hlj
   have HOj : Hid (∀ w', Gr w w' -> Calls Tryz.prog 144 #[.slice (some ⟨b, off, none⟩) T.length cap, .int .i64 (j : Int)] w' fun e w2 => OnR w' (one T j) e w2) := fun w' g => HON.out j w' hlj g
   have HFE : Hid (F = match one T j with
    | (j', none) => (j', none)
    | (j', some s) => stps T (f - 1) j' (L ++ [s])) := HTE.out
   generalize one T j = OJ at *
   obtain ⟨j', oj⟩ := OJ
   simp only at l1 l2 l3 HFE
   clear HTE HIj
   go_wp2_with fail
   refine (HOj.out _ hg4).mono ?_
   rintro e w5 ⟨s, rfl, hsv, hg⟩
   simp only at hsv
   have hg5 : Gr w w5 := hg4.trans hg
   have HR5 := Lib.hid (HR4.out.gr hg)
   have HE5 := Lib.hid (HE4.out.gr hg)
   have HD5 := Lib.hid (HD4.out.gr hg)
   have HO5 := Lib.hid (HO4.out.kept (grown_gr none hg) (own_or _))
   have HSV := Lib.hid hsv
   clear hg hsv hg4 HR4 HE4 HD4 HO4
   cases oj with
   | none =>
    have HFN : Hid (F = (j', none)) := HFE.out
    simp only [Option.isSome_none]
    go_wp2_with fail
    refine (HSY.out j' _ l2 hg5.alloc).mono ?_
    rintro e w6 ⟨rfl, hg⟩
    have hg6 : Gr w w6 := hg5.alloc.trans hg
    obtain ⟨r0, r1, rf0, rf1, rl⟩ := (HR5.out.gr (Gr.refl _).alloc).gr hg
    obtain ⟨s0, s1, sf0, sf1, sl⟩ := (HE5.out.gr (Gr.refl _).alloc).gr hg
    generalize hV : tk T j' = v' at *
    have HV := Lib.hid hV
    obtain ⟨ak, at', ap⟩ := v'
    simp only at *
    clear hg hV
    go_wp2
    refine bodyPost_ret (v := .tuple #[.agg #[.string ⟨#[]⟩, .slice none 0 0], .int .i64 0, .agg #[.int .i64 81, .int .i64 ap]]) (by simp [results, Tryz.results119, go_sem, *]) rfl ?_
    rw [HFN.out]
    refine ⟨fun _ => ?_, fun M h => (by cases h), fun M h => (by cases h)⟩
    show PaR w ⟨#[]⟩ [] 0 81 (tk T j').p _ _
    rw [HV.out]
    exact ⟨none, 0, rfl, RowAt.nil, by simp, (fun x e => by cases e), (by (with_reducible repeat' (first | exact Gr.refl _ | refine Gr.set ?_ _ ?_ _ | refine Gr.alloc ?_ | refine Gr.drew ?_ | refine Gr.trans ?_ (by assumption))) <;> (first | (simp; done) | (simp; omega) | omega))⟩
   | some s' =>
    obtain rfl : s = s' := HSV.out s' rfl
    have HFS : Hid (F = stps T (f - 1) j' (L ++ [s])) := HFE.out
    have hjj : j < j' := l3 (by simp)
    have hll := HI.out.ll
    have HFU : Hid (T.length - j < f) := HI.out.fu
    simp only [Option.isSome_some]
    have HX5 := Lib.hid (AccAt.new w5 (.int .i64 s.k) (.string s.a) (.int .i64 s.n) (.int .i64 s.o) (.string s.u) (.int .i64 s.y) (.int .i64 s.v) 94 _ rfl)
    have HN5 : Hid (∀ k u, ([s].flatMap stpC)[k]? = some u -> ((w5.alloc (.cells #[.int .i64 s.k, .string s.a, .int .i64 s.n, .int .i64 s.o, .string s.u, .int .i64 s.y, .int .i64 s.v] 94)).alloc (.cells #[.int .i64 s.k, .string s.a, .int .i64 s.n, .int .i64 s.o, .string s.u, .int .i64 s.y, .int .i64 s.v] 94)).cell? ((⟨w5.heap.size + 1, 0, none⟩ : Addr).add k) = some u) := by
     have := stp_lit1 (w5.alloc (.cells #[.int .i64 s.k, .string s.a, .int .i64 s.n, .int .i64 s.o, .string s.u, .int .i64 s.y, .int .i64 s.v] 94)) s 94
     rw [show (w5.alloc (.cells #[.int .i64 s.k, .string s.a, .int .i64 s.n, .int .i64 s.o, .string s.u, .int .i64 s.y, .int .i64 s.v] 94)).heap.size = w5.heap.size + 1 by simp] at this
     exact this
    have HO6 : Hid (World.ownsRow ((w5.alloc (.cells #[.int .i64 s.k, .string s.a, .int .i64 s.n, .int .i64 s.o, .string s.u, .int .i64 s.y, .int .i64 s.v] 94)).alloc (.cells #[.int .i64 s.k, .string s.a, .int .i64 s.n, .int .i64 s.o, .string s.u, .int .i64 s.y, .int .i64 s.v] 94)) (w3.heap.size + 1) 94 7 (.slice a L.length c) L.length (L.flatMap stpC)) := HO5.out.kept (grown_gr none (Gr.refl _).alloc.alloc) (own_or _)
    have HGA : Hid (Gr w5 ((w5.alloc (.cells #[.int .i64 s.k, .string s.a, .int .i64 s.n, .int .i64 s.o, .string s.u, .int .i64 s.y, .int .i64 s.v] 94)).alloc (.cells #[.int .i64 s.k, .string s.a, .int .i64 s.n, .int .i64 s.o, .string s.u, .int .i64 s.y, .int .i64 s.v] 94))) := (Gr.refl _).alloc.alloc
    have hwz : w3.heap.size + 1 <= ((w5.alloc (.cells #[.int .i64 s.k, .string s.a, .int .i64 s.n, .int .i64 s.o, .string s.u, .int .i64 s.y, .int .i64 s.v] 94)).alloc (.cells #[.int .i64 s.k, .string s.a, .int .i64 s.n, .int .i64 s.o, .string s.u, .int .i64 s.y, .int .i64 s.v] 94)).heap.size := by have := HD5.out.lt; simp; omega
    have bne : ∀ {v : Value} {wx : World} {n : Nat} {xs : List Value}, wx.ownsRow (w3.heap.size + 1) 94 7 v n xs -> ∀ i, i <= w3.heap.size -> some i ≠ v.ownBlock := fun h i hi e => by have := (h.lt _ e.symm).1; omega
    obtain ⟨q0, q1, qf0, qf1, ql⟩ := HD5.out
    have m1 : ¬ w5.heap.size = w3.heap.size := by omega
    have m2 : ¬ w3.heap.size = w5.heap.size := by omega
    go_wp2_with (first
     | (at_builtin; refine wpList_append_own _ rfl _ _ 25 rfl (w3.heap.size + 1) 94 i0 (.agg #[.int .i64 0, .string ⟨#[]⟩, .int .i64 0, .int .i64 0, .string ⟨#[]⟩, .int .i64 0, .int .i64 0]) 7 72 Tryz.underlying25 hi0 hz0 hz1 hz2 rfl (by decide) _ _ _ rfl HO6.out ⟨w5.heap.size + 1, 0, none⟩ 1 1 ([s].flatMap stpC) rfl rfl HN5.out (stp_one _) (by unfold maxLen; omega) (by omega) hwz ?_)
     | fail)
    intro v6 w6 ho6 hgr6 _
    have ho6' : w6.ownsRow (w3.heap.size + 1) 94 7 v6 (L ++ [s]).length ((L ++ [s]).flatMap stpC) := by rw [List.length_append, stpV_app]; exact ho6
    obtain ⟨a6, c6, rfl, hc6, _⟩ := own_row ho6'
    have HO7 := Lib.hid ho6'
    have HD6 := Lib.hid ((HD5.out.gr HGA.out).grown hgr6 (bne HO6.out _ (Nat.le_refl _)))
    have HR6 := Lib.hid ((HR5.out.gr HGA.out).grown hgr6 (bne HO6.out _ (by omega)))
    have HE6 := Lib.hid ((HE5.out.gr HGA.out).grown hgr6 (bne HO6.out _ (by omega)))
    have HG6 : Hid (Gr w w6) := (hg5.trans HGA.out).grown hgr6 (fun g e => by have := (HO6.out.lt g e).1; have := hg5.size; omega)
    have HI7 : Hid (PrI w w3.heap.size T yt F (w6.setCell ⟨w3.heap.size, 1, none⟩ (.slice a6 (L.length + 1) c6)) j' (L ++ [s]) a6 c6 (f - 1)) := by
     rw [show L.length + 1 = (L ++ [s]).length by simp]
     refine ⟨HR6.out.setFar _ _ (by simp; omega), HE6.out.setFar _ _ (by simp; omega), HD6.out.set1 _, own_far HO7.out _ _ (fun e => bne HO7.out _ (Nat.le_refl _) e.symm), HG6.out.set ⟨w3.heap.size, 1, none⟩ (by simp; omega) _, HB3n, l2, ?_, ?_, HFS.out.symm⟩
     ·rw [List.length_append, List.length_singleton]; omega
     ·have := HFU.out; omega
    obtain ⟨p0, p1, pf0, pf1, pl⟩ := HD6.out
    clear ho6 ho6' hgr6 hwz q0 q1 qf0 qf1 ql
    go_wp2
    go_roundw
    case rel => exact ⟨j', _, _, _, _, rfl, HI7.out⟩
    case measure => simp [intOf]; omega

/- where the definition does not begin -/
theorem refParse_head (T : List Tok) (ad : Option Addr) (cap : Nat) (i : Nat) (w : World) (hT : ToksAt w ad T) (hn : T.length <= 5000) (hz : ∀ x ∈ T, x.t.size <= 9223372036854775807) (h80 : ckE T ≠ 80) (hi : i < T.length)
  (h : ¬ (isT (tk T i) 1 Df.wSaga = true /\ (tk T (i + 1)).k = 1 /\ isT (tk T (i + 2)) 3 Df.gOpen = true)) :
  Calls Tryz.prog 119 #[.slice ad T.length cap, .int .i64 (i : Int)] w fun e w' => PaR w ⟨#[]⟩ [] 0 81 (tk T (prs T i).1).p e w' := by
 have hG := Df.gd_of h80
 have HC : Hid (∀ w', Gr w w' -> Calls Tryz.prog 141 #[.slice ad T.length cap] w' fun e w2 => e = .returned (.int .i64 (ckE T)) /\ Gr w' w2) := fun w' g => lRefCheck_any T ad cap w' (hT.gr g) hn hz
 have HSY : Hid (∀ (j : Nat) (w' : World), j < T.length -> Gr w w' -> Calls Tryz.prog 143 #[.slice ad T.length cap, .int .i64 (j : Int)] w' fun e w2 => e = .returned (.tuple #[.agg #[.string ⟨#[]⟩, .slice none 0 0], .int .i64 0, .agg #[.int .i64 81, .int .i64 (tk T j).p]]) /\ Gr w' w2) := fun j w' hj g => refSyntax_any T ad cap j w' (hT.gr g) hj hn
 have HI0 : Hid (∀ w', Calls Tryz.prog 142 #[.agg #[.int .i64 (tk T i).k, .string (tk T i).t, .int .i64 (tk T i).p], .int .i64 1, .string ⟨#[115, 97, 103, 97]⟩] w' fun e w2 => e = .returned (.bool (isT (tk T i) 1 Df.wSaga)) /\ Gr w' w2) := fun w' => refIs_any (tk T i) 1 Df.wSaga w'
 have HI2 : Hid (∀ w', Calls Tryz.prog 142 #[.agg #[.int .i64 (tk T (i + 2)).k, .string (tk T (i + 2)).t, .int .i64 (tk T (i + 2)).p], .int .i64 3, .string ⟨#[123]⟩] w' fun e w2 => e = .returned (.bool (isT (tk T (i + 2)) 3 Df.gOpen)) /\ Gr w' w2) := fun w' => refIs_any (tk T (i + 2)) 3 Df.gOpen w'
 have HA0 := Lib.hid (TwoAt.new w (.string ⟨#[]⟩) (.slice none 0 0) 27 _ rfl)
 have HB0 := Lib.hid (TwoAt.new (w.alloc (.cells #[.string ⟨#[]⟩, .slice none 0 0] 27)) (.int .i64 0) (.int .i64 0) 136 (w.heap.size + 1) (by simp))
 have hb80 : (ckE T == 80) = false := by simpa using h80
 obtain ⟨b, off, rfl, hb, c0, c1, c2⟩ := hT i hi
 rw [<- Df.tk_get T i hi] at c0 c1 c2
 by_cases h1 : isT (tk T i) 1 Df.wSaga = true
 ·have hn1 := hG.next (i := i) (by rw [((Df.isT_iff _ _ _).1 h1).1]; decide)
  obtain ⟨b1', off1', e1', _, d0, d1, d2⟩ := hT (i + 1) hn1
  cases e1'
  rw [<- Df.tk_get T (i + 1) hn1] at d0 d1 d2
  rw [h1] at HI0
  by_cases h2 : (tk T (i + 1)).k = 1
  ·have hn2 := hG.next (i := i + 1) (by rw [h2]; decide)
   obtain ⟨b2', off2', e2', _, f0, f1, f2⟩ := hT (i + 2) hn2
   cases e2'
   rw [<- Df.tk_get T (i + 2) hn2] at f0 f1 f2
   have h3 : ¬ isT (tk T (i + 2)) 3 Df.gOpen = true := fun e => h ⟨h1, h2, e⟩
   have HP : Hid ((tk T (prs T i).1).p = (tk T (i + 2)).p) := by show _ = _; unfold Df.prs; rw [if_pos h1, if_pos h2, if_neg h3]
   rw [show isT (tk T (i + 2)) 3 Df.gOpen = false by simpa using h3] at HI2
   have HS2 : Hid (∀ w', Gr w w' -> Calls Tryz.prog 143 #[.slice (some ⟨b, off, none⟩) T.length cap, .int .i64 ((i : Int) + 2)] w' fun e w2 => e = .returned (.tuple #[.agg #[.string ⟨#[]⟩, .slice none 0 0], .int .i64 0, .agg #[.int .i64 81, .int .i64 (tk T (i + 2)).p]]) /\ Gr w' w2) := fun w' g => HSY.out (i + 2) w' hn2 g
   have e2 : ((tk T (i + 1)).k != 1) = false := by simpa using h2
   generalize (tk T (prs T i).1).p = PP at *
   generalize ckE T = CK at *
   generalize tk T i = x at *
   generalize tk T (i + 1) = y at *
   generalize tk T (i + 2) = z at *
   obtain ⟨xk, xt, xp⟩ := x
   obtain ⟨yk, yt, yp⟩ := y
   obtain ⟨zk, zt, zp⟩ := z
   simp only at *
   clear hT hG hz h80 h1 h2 h3 h HSY
   go_enter Tryz.func119, Tryz.ntmps119
   go_wp2_with fail
   refine (HC.out _ (by repeat(first|exact Gr.r _|refine Gr.a ?_|refine Gr.d ?_|refine Gr.t ?_ (by assumption)))).mono ?_
   rintro e w1 ⟨rfl, hg⟩
   have hg1 : Gr w w1 := (Gr.refl _).alloc.alloc.trans hg
   have HA1 := Lib.hid ((HA0.out.gr (Gr.refl _).alloc).gr hg)
   have HB1 := Lib.hid (HB0.out.gr hg)
   have hb1 : b < w1.heap.size := Nat.lt_of_lt_of_le hb hg1.size
   replace c0 := hg1.keep c0
   replace c1 := hg1.keep c1
   replace c2 := hg1.keep c2
   replace d0 := hg1.keep d0
   replace d1 := hg1.keep d1
   replace d2 := hg1.keep d2
   replace f0 := hg1.keep f0
   replace f1 := hg1.keep f1
   replace f2 := hg1.keep f2
   clear hg
   go_wp2_with fail
   refine (HI0.out _).mono ?_
   rintro e w2 ⟨rfl, hg⟩
   have hg2 : Gr w w2 := hg1.trans hg
   have HA2 := Lib.hid (HA1.out.gr hg)
   have HB2 := Lib.hid (HB1.out.gr hg)
   have hb2 : b < w2.heap.size := Nat.lt_of_lt_of_le hb hg2.size
   replace d0 := hg.keep d0
   replace d1 := hg.keep d1
   replace d2 := hg.keep d2
   replace f0 := hg.keep f0
   replace f1 := hg.keep f1
   replace f2 := hg.keep f2
   clear hg hg1 c0 c1 c2 hb1
   go_wp2_with fail
   refine (HI2.out _).mono ?_
   rintro e w3 ⟨rfl, hg⟩
   have hg3 : Gr w w3 := hg2.trans hg
   have HA3 := Lib.hid (HA2.out.gr hg)
   have HB3 := Lib.hid (HB2.out.gr hg)
   clear hg hg2 d0 d1 d2 f0 f1 f2 hb2
   go_wp2_with fail
   refine (HS2.out _ hg3).mono ?_
   rintro e w4 ⟨rfl, hg⟩
   have hg4 : Gr w w4 := hg3.trans hg
   obtain ⟨a0, a1, af0, af1, al⟩ := HA3.out.gr hg
   obtain ⟨b0, b1, bf0, bf1, bl⟩ := HB3.out.gr hg
   clear hg hg3
   go_wp2
   refine bodyPost_ret (v := .tuple #[.agg #[.string ⟨#[]⟩, .slice none 0 0], .int .i64 0, .agg #[.int .i64 81, .int .i64 zp]]) (by simp [results, Tryz.results119, go_sem, *]) rfl ?_
   rw [HP.out]
   exact ⟨none, 0, rfl, RowAt.nil, by simp, (fun x e => by cases e), (by (with_reducible repeat' (first | exact Gr.refl _ | refine Gr.set ?_ _ ?_ _ | refine Gr.alloc ?_ | refine Gr.drew ?_ | refine Gr.trans ?_ (by assumption))) <;> (first | (simp; done) | (simp; omega) | omega))⟩
  ·have HP : Hid ((tk T (prs T i).1).p = (tk T (i + 1)).p) := by show _ = _; unfold Df.prs; rw [if_pos h1, if_neg h2]
   have HS1 : Hid (∀ w', Gr w w' -> Calls Tryz.prog 143 #[.slice (some ⟨b, off, none⟩) T.length cap, .int .i64 ((i : Int) + 1)] w' fun e w2 => e = .returned (.tuple #[.agg #[.string ⟨#[]⟩, .slice none 0 0], .int .i64 0, .agg #[.int .i64 81, .int .i64 (tk T (i + 1)).p]]) /\ Gr w' w2) := fun w' g => HSY.out (i + 1) w' hn1 g
   have e2 : ((tk T (i + 1)).k != 1) = true := by simpa using h2
   generalize (tk T (prs T i).1).p = PP at *
   generalize ckE T = CK at *
   generalize tk T i = x at *
   generalize tk T (i + 1) = y at *
   obtain ⟨xk, xt, xp⟩ := x
   obtain ⟨yk, yt, yp⟩ := y
   simp only at *
   clear hT hG hz h80 h1 h2 h HSY HI2
   go_enter Tryz.func119, Tryz.ntmps119
   go_wp2_with fail
   refine (HC.out _ (by repeat(first|exact Gr.r _|refine Gr.a ?_|refine Gr.d ?_|refine Gr.t ?_ (by assumption)))).mono ?_
   rintro e w1 ⟨rfl, hg⟩
   have hg1 : Gr w w1 := (Gr.refl _).alloc.alloc.trans hg
   have HA1 := Lib.hid ((HA0.out.gr (Gr.refl _).alloc).gr hg)
   have HB1 := Lib.hid (HB0.out.gr hg)
   have hb1 : b < w1.heap.size := Nat.lt_of_lt_of_le hb hg1.size
   replace c0 := hg1.keep c0
   replace c1 := hg1.keep c1
   replace c2 := hg1.keep c2
   replace d0 := hg1.keep d0
   replace d1 := hg1.keep d1
   replace d2 := hg1.keep d2
   clear hg
   go_wp2_with fail
   refine (HI0.out _).mono ?_
   rintro e w2 ⟨rfl, hg⟩
   have hg2 : Gr w w2 := hg1.trans hg
   have HA2 := Lib.hid (HA1.out.gr hg)
   have HB2 := Lib.hid (HB1.out.gr hg)
   have hb2 : b < w2.heap.size := Nat.lt_of_lt_of_le hb hg2.size
   replace d0 := hg.keep d0
   replace d1 := hg.keep d1
   replace d2 := hg.keep d2
   clear hg hg1 c0 c1 c2 hb1
   go_wp2_with fail
   refine (HS1.out _ hg2).mono ?_
   rintro e w4 ⟨rfl, hg⟩
   have hg4 : Gr w w4 := hg2.trans hg
   obtain ⟨a0, a1, af0, af1, al⟩ := HA2.out.gr hg
   obtain ⟨b0, b1, bf0, bf1, bl⟩ := HB2.out.gr hg
   clear hg hg2 d0 d1 d2 hb2
   go_wp2
   refine bodyPost_ret (v := .tuple #[.agg #[.string ⟨#[]⟩, .slice none 0 0], .int .i64 0, .agg #[.int .i64 81, .int .i64 yp]]) (by simp [results, Tryz.results119, go_sem, *]) rfl ?_
   rw [HP.out]
   exact ⟨none, 0, rfl, RowAt.nil, by simp, (fun x e => by cases e), (by (with_reducible repeat' (first | exact Gr.refl _ | refine Gr.set ?_ _ ?_ _ | refine Gr.alloc ?_ | refine Gr.drew ?_ | refine Gr.trans ?_ (by assumption))) <;> (first | (simp; done) | (simp; omega) | omega))⟩
 ·have HP : Hid ((tk T (prs T i).1).p = (tk T i).p) := by show _ = _; unfold Df.prs; rw [if_neg h1]
  have HS0 : Hid (∀ w', Gr w w' -> Calls Tryz.prog 143 #[.slice (some ⟨b, off, none⟩) T.length cap, .int .i64 (i : Int)] w' fun e w2 => e = .returned (.tuple #[.agg #[.string ⟨#[]⟩, .slice none 0 0], .int .i64 0, .agg #[.int .i64 81, .int .i64 (tk T i).p]]) /\ Gr w' w2) := fun w' g => HSY.out i w' hi g
  rw [show isT (tk T i) 1 Df.wSaga = false by simpa using h1] at HI0
  generalize (tk T (prs T i).1).p = PP at *
  generalize ckE T = CK at *
  generalize tk T i = x at *
  obtain ⟨xk, xt, xp⟩ := x
  simp only at *
  clear hT hG hz h80 h1 h HSY HI2
  go_enter Tryz.func119, Tryz.ntmps119
  go_wp2_with fail
  refine (HC.out _ (by repeat(first|exact Gr.r _|refine Gr.a ?_|refine Gr.d ?_|refine Gr.t ?_ (by assumption)))).mono ?_
  rintro e w1 ⟨rfl, hg⟩
  have hg1 : Gr w w1 := (Gr.refl _).alloc.alloc.trans hg
  have HA1 := Lib.hid ((HA0.out.gr (Gr.refl _).alloc).gr hg)
  have HB1 := Lib.hid (HB0.out.gr hg)
  have hb1 : b < w1.heap.size := Nat.lt_of_lt_of_le hb hg1.size
  replace c0 := hg1.keep c0
  replace c1 := hg1.keep c1
  replace c2 := hg1.keep c2
  clear hg
  go_wp2_with fail
  refine (HI0.out _).mono ?_
  rintro e w2 ⟨rfl, hg⟩
  have hg2 : Gr w w2 := hg1.trans hg
  have HA2 := Lib.hid (HA1.out.gr hg)
  have HB2 := Lib.hid (HB1.out.gr hg)
  clear hg hg1 c0 c1 c2 hb1
  go_wp2_with fail
  refine (HS0.out _ hg2).mono ?_
  rintro e w4 ⟨rfl, hg⟩
  have hg4 : Gr w w4 := hg2.trans hg
  obtain ⟨a0, a1, af0, af1, al⟩ := HA2.out.gr hg
  obtain ⟨b0, b1, bf0, bf1, bl⟩ := HB2.out.gr hg
  clear hg hg2
  go_wp2
  refine bodyPost_ret (v := .tuple #[.agg #[.string ⟨#[]⟩, .slice none 0 0], .int .i64 0, .agg #[.int .i64 81, .int .i64 xp]]) (by simp [results, Tryz.results119, go_sem, *]) rfl ?_
  rw [HP.out]
  exact ⟨none, 0, rfl, RowAt.nil, by simp, (fun x e => by cases e), (by (with_reducible repeat' (first | exact Gr.refl _ | refine Gr.set ?_ _ ?_ _ | refine Gr.alloc ?_ | refine Gr.drew ?_ | refine Gr.trans ?_ (by assumption))) <;> (first | (simp; done) | (simp; omega) | omega))⟩

theorem lRefParse_any (T : List Tok) (ad : Option Addr) (cap : Nat) (at' : Int) (w : World) (hT : ToksAt w ad T) (hn : T.length <= 5000) (hz : ∀ x ∈ T, x.t.size <= 9223372036854775807) :
  Calls Tryz.prog 119 #[.slice ad T.length cap, .int .i64 at'] w fun e w' => PaR w (pN T at') (pL T at') (pT T at') (pE T at') (pA T at') e w' := by
 by_cases h80 : ckE T = 80
 ·have e1 : pE T at' = 80 := by unfold Df.pE; rw [if_pos h80]
  have e2 : pA T at' = 0 := by unfold Df.pA; rw [if_pos h80]
  have e3 : pT T at' = 0 := by unfold Df.pT; rw [e1]; rfl
  have e4 : pN T at' = ⟨#[]⟩ := by unfold Df.pN; rw [e1]; rfl
  have e5 : pL T at' = [] := by unfold Df.pL; rw [e1]; rfl
  rw [e1, e2, e3, e4, e5]
  have := refParse_bad T ad cap at' w hT hn hz (Or.inl h80)
  rw [if_pos h80] at this
  exact this
 ·by_cases hat : 0 <= at' /\ at' < T.length
  ·obtain ⟨i, rfl⟩ : ∃ i : Nat, at' = (i : Int) := ⟨at'.toNat, by omega⟩
   have hi : i < T.length := by omega
   have none81 : (prs T i).2 = none -> pE T (i : Int) = 81 /\ pA T (i : Int) = (tk T (prs T i).1).p /\ pT T (i : Int) = 0 /\ pN T (i : Int) = ⟨#[]⟩ /\ pL T (i : Int) = [] := fun ho => by
    have e1 : pE T (i : Int) = 81 := by unfold Df.pE; rw [if_neg h80, if_pos hat, Int.toNat_natCast, ho]
    exact ⟨e1, by unfold Df.pA; rw [if_neg h80, if_pos hat, Int.toNat_natCast, ho], by unfold Df.pT; rw [e1]; rfl, by unfold Df.pN; rw [e1]; rfl, by unfold Df.pL; rw [e1]; rfl⟩
   by_cases hh : isT (tk T i) 1 Df.wSaga = true /\ (tk T (i + 1)).k = 1 /\ isT (tk T (i + 2)) 3 Df.gOpen = true
   ·have hgo := refParse_loop T ad cap i w hT hn hz h80 hi hh.1 hh.2.1 hh.2.2
    rcases hx : stps T (T.length + 1) (i + 3) [] with ⟨j, o⟩
    rw [hx] at hgo
    cases o with
    | none =>
     have hp : prs T i = (j, none) := by unfold Df.prs; rw [if_pos hh.1, if_pos hh.2.1, if_pos hh.2.2, hx]
     obtain ⟨e1, e2, e3, e4, e5⟩ := none81 (by rw [hp])
     rw [e1, e2, e3, e4, e5]
     refine hgo.mono ?_
     rintro e w' ⟨q1, _, _⟩
     rw [hp]
     exact q1 rfl
    | some L =>
     have hp : prs T i = (j, some ((tk T (i + 1)).t, L)) := by unfold Df.prs; rw [if_pos hh.1, if_pos hh.2.1, if_pos hh.2.2, hx]
     have ho : (prs T i).2 = some ((tk T (i + 1)).t, L) := by rw [hp]
     have hch : pE T (i : Int) = chE (tk T (i + 1)).t L := by unfold Df.pE; rw [if_neg h80, if_pos hat, Int.toNat_natCast, ho]
     have hpa : pA T (i : Int) = if defB (tk T (i + 1)).t L = true then 0 else (tk T i).p := by unfold Df.pA; rw [if_neg h80, if_pos hat, Int.toNat_natCast, ho]
     cases hd : defB (tk T (i + 1)).t L with
     | true =>
      have e1 : pE T (i : Int) = 0 := by rw [hch]; exact Df.ch_yes hd
      have e2 : pA T (i : Int) = 0 := by rw [hpa, hd]; rfl
      have e3 : pT T (i : Int) = (j : Int) := by unfold Df.pT; rw [e1, if_pos rfl, Int.toNat_natCast, hp]
      have e4 : pN T (i : Int) = (tk T (i + 1)).t := by unfold Df.pN; rw [e1, if_pos rfl, Int.toNat_natCast, ho]
      have e5 : pL T (i : Int) = L := by unfold Df.pL; rw [e1, if_pos rfl, Int.toNat_natCast, ho]
      rw [e1, e2, e3, e4, e5]
      refine hgo.mono ?_
      rintro e w' ⟨_, _, q3⟩
      exact q3 L rfl hd
     | false =>
      have e1 : pE T (i : Int) = 90 := by rw [hch]; exact Df.ch_no hd
      have e2 : pA T (i : Int) = (tk T i).p := by rw [hpa, hd]; rfl
      have e3 : pT T (i : Int) = 0 := by unfold Df.pT; rw [e1]; rfl
      have e4 : pN T (i : Int) = ⟨#[]⟩ := by unfold Df.pN; rw [e1]; rfl
      have e5 : pL T (i : Int) = [] := by unfold Df.pL; rw [e1]; rfl
      rw [e1, e2, e3, e4, e5]
      refine hgo.mono ?_
      rintro e w' ⟨_, q2, _⟩
      exact q2 L rfl hd
   ·have ho : (prs T i).2 = none := by
     unfold Df.prs
     split
     ·split
      ·split
       ·exact absurd ⟨by assumption, by assumption, by assumption⟩ hh
       ·rfl
      ·rfl
     ·rfl
    obtain ⟨e1, e2, e3, e4, e5⟩ := none81 ho
    rw [e1, e2, e3, e4, e5]
    exact refParse_head T ad cap i w hT hn hz h80 hi hh
  ·have e1 : pE T at' = 2 := by unfold Df.pE; rw [if_neg h80, if_neg hat]
   have e2 : pA T at' = 0 := by unfold Df.pA; rw [if_neg h80, if_neg hat]
   have e3 : pT T at' = 0 := by unfold Df.pT; rw [e1]; rfl
   have e4 : pN T at' = ⟨#[]⟩ := by unfold Df.pN; rw [e1]; rfl
   have e5 : pL T at' = [] := by unfold Df.pL; rw [e1]; rfl
   rw [e1, e2, e3, e4, e5]
   have := refParse_bad T ad cap at' w hT hn hz (Or.inr hat)
   rw [if_neg h80] at this
   exact this

end Go.Proofs.YthaadiclopoamaaGreatDoor
