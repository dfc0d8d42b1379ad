/- Parts of these proofs, laid together. -/
import Derived.Test.YthaadiclopoamaaGreatDoorGG
import Derived.BigQuiet
import Derived.Test.YthaadiclopoamaaGreatDoorGF
import Derived.StringKeys
import Derived.Sort.KeysCollected
import Derived.BigRegion
import Derived.Test.YthaadiclopoamaaGreatDoorGB
/- def: Check, Same; steps that are the same. -/
set_option maxRecDepth 100000
set_option maxHeartbeats 8000000
namespace Go.Proofs.YthaadiclopoamaaGreatDoor
open Go.RowKit
open Df (Stp)

def eqS (x y : Stp) : Bool := decide (x.k = y.k) && decide (x.a = y.a) && decide (x.n = y.n) && decide (x.o = y.o) && decide (x.u = y.u) && decide (x.y = y.y) && decide (x.v = y.v)
theorem eqS_iff (x y : Stp) : eqS x y = true ↔ x = y := by
 unfold eqS
 simp only [Bool.and_eq_true, decide_eq_true_eq]
 constructor
 ·rintro ⟨⟨⟨⟨⟨⟨h1, h2⟩, h3⟩, h4⟩, h5⟩, h6⟩, h7⟩
  cases x; cases y; simp_all
 ·rintro rfl; simp
theorem toL_eq (a b : ByteArray) : (a.toList = b.toList) ↔ a = b := by
 rw [ByteArray.toList_eq, ByteArray.toList_eq]
 exact ⟨Lex.list_bytes, fun h => by rw [h]⟩
theorem neq_stp (x y : Stp) (W : World) : (binOp .neq 94 (.agg #[.int .i64 x.k, .string x.a, .int .i64 x.n, .int .i64 x.o, .string x.u, .int .i64 x.y, .int .i64 x.v]) (.agg #[.int .i64 y.k, .string y.a, .int .i64 y.n, .int .i64 y.o, .string y.u, .int .i64 y.y, .int .i64 y.v])).run Tryz.prog W = .ok (.bool (!eqS x y)) W := by
 go_simp
 unfold eqS
 simp only [toL_eq]
 by_cases h1 : x.k = y.k <;> by_cases h2 : x.a = y.a <;> by_cases h3 : x.n = y.n <;> by_cases h4 : x.o = y.o <;> by_cases h5 : x.u = y.u <;> by_cases h6 : x.y = y.y <;> by_cases h7 : x.v = y.v <;> simp [h1, h2, h3, h4, h5, h6, h7]

/- rows of steps that are the same -/
def eqL (L M : List Stp) : Bool := decide (L.length = M.length) && (List.range L.length).all (fun j => eqS (L.getD j ⟨0, ⟨#[]⟩, 0, 0, ⟨#[]⟩, 0, 0⟩) (M.getD j ⟨0, ⟨#[]⟩, 0, 0, ⟨#[]⟩, 0, 0⟩))
theorem eqL_iff (L M : List Stp) : eqL L M = true ↔ L = M := by
 unfold eqL
 simp only [Bool.and_eq_true, decide_eq_true_eq, List.all_eq_true, List.mem_range, eqS_iff]
 constructor
 ·rintro ⟨h1, h2⟩
  refine List.ext_getElem h1 (fun j hj hj' => ?_)
  have := h2 j hj
  rwa [List.getD_eq_getElem?_getD, List.getD_eq_getElem?_getD, List.getElem?_eq_getElem hj, List.getElem?_eq_getElem hj'] at this
 ·rintro rfl; simp
theorem eqL_no {L M : List Stp} (j : Nat) (h1 : j < L.length) (h2 : j < M.length) (h : eqS L[j] M[j] = false) : eqL L M = false := by
 cases he : eqL L M with
 | false => rfl
 | true =>
  have := (eqL_iff L M).1 he
  subst this
  rw [(eqS_iff _ _).2 rfl] at h; cases h
theorem eqL_len {L M : List Stp} (h : L.length ≠ M.length) : eqL L M = false := by unfold eqL; rw [decide_eq_false h]; rfl
theorem eqL_yes {L M : List Stp} (h0 : L.length = M.length) (h : ∀ j (h1 : j < L.length) (h2 : j < M.length), eqS L[j] M[j] = true) : eqL L M = true :=
 (eqL_iff L M).2 (List.ext_getElem h0 (fun j h1 h2 => (eqS_iff _ _).1 (h j h1 h2)))

end Go.Proofs.YthaadiclopoamaaGreatDoor
/- def: kinds, kindWord. -/
set_option maxRecDepth 100000
set_option maxHeartbeats 8000000
namespace Go.Proofs.YthaadiclopoamaaGreatDoor
open Go.RowKit Go.Maps
open Df (kw wk)

theorem strLaw : Keyed Tryz.prog 9 := string_keyed Tryz.underlying9
theorem zeroInt (w : World) : (zeroValue 3).run Tryz.prog w = .ok (.int .i64 0) w := by kernel_rfl
theorem key_any (s : ByteArray) (h : s.size <= 9223372036854775807) : keyOf Tryz.prog 9 (.string s) = some (ks s) := WideMaps.keyOf_string_mk Tryz.underlying9 (by unfold maxLen; omega)

theorem kinds_any (w : World) : Calls Tryz.prog 129 #[] w fun e w' => e = .returned (.map (some w.heap.size)) /\ MapK w' w.heap.size /\ Gr w w' := by
 have hmm := @run_makeMap Tryz.prog
 have h0 := World.ownsMap_made w Tryz.prog 9 (plainElem (H := Unit) Tryz.prog 3)
 have hv : ∀ n : Int, 1 <= n -> n <= 4 -> plainElem (H := Unit) Tryz.prog 3 (.int .i64 n) = some (.lit (.int .i64 n), []) := fun n h1 h2 => plainElem_int Tryz.underlying3 (WalkArith.wf_i64 (by omega))
 obtain ⟨w1, r1, o1, g1⟩ := h0.update strLaw Tryz.underlying180 (by unfold maxLen; omega) (key_any Df.wDebit (by decide)) (hv 1 (by omega) (by omega))
 obtain ⟨w2, r2, o2, g2⟩ := o1.update strLaw Tryz.underlying180 (by unfold maxLen; omega) (key_any Df.wCredit (by decide)) (hv 2 (by omega) (by omega))
 obtain ⟨w3, r3, o3, g3⟩ := o2.update strLaw Tryz.underlying180 (by unfold maxLen; omega) (key_any Df.wReserve (by decide)) (hv 3 (by omega) (by omega))
 obtain ⟨w4, r4, o4, g4⟩ := o3.update strLaw Tryz.underlying180 (by unfold maxLen; omega) (key_any Df.wRelease (by decide)) (hv 4 (by omega) (by omega))
 have HO : Hid (MapK w4 w.heap.size) := o4
 have HG : Hid (Gr w w4) := by
  have a1 : GB w.heap.size (w.alloc (.map #[] 0)) w1 := ⟨g1⟩
  have a2 : GB w.heap.size w1 w2 := ⟨g2⟩
  have a3 : GB w.heap.size w2 w3 := ⟨g3⟩
  have a4 : GB w.heap.size w3 w4 := ⟨g4⟩
  exact Gr.gb (Gr.refl w).alloc (((a1.trans a2).trans a3).trans a4) (Nat.le_refl _)
 unfold Df.wDebit at r1
 unfold Df.wCredit at r2
 unfold Df.wReserve at r3
 unfold Df.wRelease at r4
 clear h0 hv o1 o2 o3 o4 g1 g2 g3 g4
 go_enter Tryz.func129, Tryz.ntmps129
 go_wp2
 go_ret
 exact ⟨rfl, HO.out, HG.out⟩

theorem kw_wk (k : Int) (h1 : 1 <= k) (h2 : k <= 4) : kw (wk k) = k := by
 rcases (by omega : k = 1 ∨ k = 2 ∨ k = 3 ∨ k = 4) with rfl | rfl | rfl | rfl <;> decide
theorem wk_kw (s : ByteArray) (h : kw s ≠ 0) : wk (kw s) = s := by
 unfold Df.kw at h ⊢
 by_cases h1 : s = Df.wDebit
 ·rw [if_pos h1]; exact h1.symm
 ·rw [if_neg h1] at h ⊢
  by_cases h2 : s = Df.wCredit
  ·rw [if_pos h2]; exact h2.symm
  ·rw [if_neg h2] at h ⊢
   by_cases h3 : s = Df.wReserve
   ·rw [if_pos h3]; exact h3.symm
   ·rw [if_neg h3] at h ⊢
    by_cases h4 : s = Df.wRelease
    ·rw [if_pos h4]; exact h4.symm
    ·rw [if_neg h4] at h; exact absurd rfl h
theorem wk_none (k : Int) (h : ¬ (1 <= k /\ k <= 4)) : wk k = ⟨#[]⟩ := by
 unfold Df.wk
 rw [if_neg (by omega), if_neg (by omega), if_neg (by omega), if_neg (by omega)]

theorem kindWord_any (k : Int) (w : World) : Calls Tryz.prog 110 #[.int .i64 k] w fun e w' => e = .returned (.string (wk k)) /\ Gr w w' := by
 have HK : Hid (∀ w', Calls Tryz.prog 129 #[] w' fun e w2 => e = .returned (.map (some w'.heap.size)) /\ MapK w2 w'.heap.size /\ Gr w' w2) := fun w' => kinds_any w'
 have HW0 : Hid (∀ h : 1 <= k /\ k <= 4, Maps.has kD (ks (wk k)) = true) := fun h => by rw [kD_has, kw_wk k h.1 h.2]; exact decide_eq_true (by omega)
 have HN : Hid (¬ (1 <= k /\ k <= 4) -> wk k = ⟨#[]⟩) := wk_none k
 have HX : Hid (∀ (s : ByteArray) (c : Int), (∀ zd, kD.atKey (ks s) zd = .lit (.int .i64 c)) -> kw s = c /\ kw s ≠ 0) := by
  intro s c h
  by_cases h0 : kw s = 0
  ·have a := h (.lit (.int .i64 (c + 1)))
   rw [kD_at, if_pos h0] at a
   injection a with a; injection a with _ a
   omega
  ·have a := h (.lit (.int .i64 0))
   rw [kD_at, if_neg h0] at a
   injection a with a; injection a with _ a
   exact ⟨a, h0⟩
 go_enter Tryz.func110, Tryz.ntmps110
 go_wp2_with fail
 refine (HK.out _).mono ?_
 rintro e w1 ⟨rfl, hm, hg1⟩
 have hm' : w1.ownsMap Tryz.prog 9 (plainElem (H := Unit) Tryz.prog 3) w.heap.size 4 kD := hm
 have HG1 : Hid (Gr w w1) := hg1
 clear hm hg1 HK
 go_wp2_with (first
  | (at_range; refine wpList_range_own _ rfl _ 180 rfl 9 3 strLaw Tryz.underlying180 _ w.heap.size 4 _ rfl hm' ?_; intro w0 hrg0 hg0 hs0)
  | go_in)
 go_frame
 clear hs0
 go_loopw [3, 4] (fun _ _ wr => ∃ (left : Lit -> Bool) (cnt : Nat), wr.ranges Tryz.prog 9 (plainElem (H := Unit) Tryz.prog 3) w.heap.size w1.heap.size 4 kD left cnt /\ (1 <= k /\ k <= 4 -> left (ks (wk k)) = true) /\ Gr w wr)
  (fun _ _ wr => wr.rangeLeft w.heap.size w1.heap.size)
 case atStart => exact ⟨_, _, hrg0, HW0.out, HG1.out.trans ⟨(Below.refl _ _).grown hg0 (Nat.le_refl _) (fun j hj => by cases hj)⟩⟩
 case round =>
  obtain ⟨left, cnt, hrg, hl, hg⟩ := hrel
  have HL : Hid (1 <= k /\ k <= 4 -> left (ks (wk k)) = true) := hl
  have HG : Hid (Gr w wr) := hg
  have HR : Hid (wr.ranges Tryz.prog 9 (plainElem (H := Unit) Tryz.prog 3) w.heap.size w1.heap.size 4 kD left cnt) := hrg
  clear hl hg hg0 hrg0 hm'
  go_wp2_with (first
   | (at_next; refine wpList_next_ranges _ rfl _ rfl 9 strLaw (plainElem (H := Unit) Tryz.prog 3) encStr (Value.int .i64) (fun key kl hk => by obtain ⟨x, hx, _⟩ := Maps.keyOf_str Tryz.underlying9 hk; exact ⟨x, hx⟩) (fun v y hv => by obtain ⟨c, rfl, _⟩ := plainElem_int_inv Tryz.underlying3 hv; exact ⟨c, rfl⟩) w.heap.size w1.heap.size 4 _ _ _ rfl hrg ?_ ?_)
   | go_in)
  ·intro hc0 hl0
   have HE : Hid (wk k = ⟨#[]⟩) := HN.out (fun h => by have := HL.out h; rw [hl0] at this; cases this)
   clear hl0 hc0
   go_wp2
   go_ret
   exact ⟨by rw [HE.out]; rfl, HG.out⟩
  ·intro x c kl yd yp w2 cnt2 hkey hlk hv hat hrg2 hlt hg2 hs2 hen
   obtain ⟨x', ex, rfl, _⟩ := Maps.keyOf_str Tryz.underlying9 hkey
   obtain rfl : x = x' := encStr_inj ex
   obtain ⟨c', ec, hy, _⟩ := plainElem_int_inv Tryz.underlying3 hv
   cases ec
   cases hy
   obtain ⟨q1, q2⟩ := HX.out ⟨x.toArray⟩ c (fun zd => by have := hat zd; simpa [ks] using this)
   have HQ : Hid (kw ⟨x.toArray⟩ = c /\ kw ⟨x.toArray⟩ ≠ 0) := ⟨q1, q2⟩
   have HG2 : Hid (Gr w w2) := Gr.gb HG.out (b := w1.heap.size) ⟨hg2⟩ HG1.out.size
   have HR2 : Hid (w2.ranges Tryz.prog 9 (plainElem (H := Unit) Tryz.prog 3) w.heap.size w1.heap.size 4 kD (fun z => left z && !z.sameKey (.string x)) cnt2) := hrg2
   have HLT : Hid (cnt2 < cnt) := hlt
   clear hkey hlk hv hat hrg2 hlt hg2 hs2 hrg q1 q2 ex
   unfold encStr at hen ⊢
   by_cases hck : c = k
   ·have HE : Hid (wk k = ⟨x.toArray⟩) := by
     show _ = _
     rw [<- hck, <- HQ.out.1, wk_kw _ HQ.out.2]
    subst hck
    go_wp2
    go_ret
    exact ⟨by rw [HE.out]; rfl, HG2.out⟩
   ·have hbe : (c == k) = false := by simpa using hck
    have HL2 : Hid (1 <= k /\ k <= 4 -> (left (ks (wk k)) && !(ks (wk k)).sameKey (.string x)) = true) := by
     intro h
     rw [HL.out h]
     have : ks (wk k) ≠ .string x := by
      intro e
      have e2 : wk k = ⟨x.toArray⟩ := ks_inj (by rw [e]; simp [ks])
      apply hck
      rw [<- HQ.out.1, <- e2, kw_wk k h.1 h.2]
     rw [sameKey_ne this]; rfl
    clear hck
    go_wp2
    go_roundw
    case rel => exact ⟨_, _, HR2.out, HL2.out, HG2.out⟩
    case measure => rw [HR2.out.left_eq, HR.out.left_eq]; exact HLT.out
end Go.Proofs.YthaadiclopoamaaGreatDoor
/- def: the methods of a place. -/
set_option maxRecDepth 100000
set_option maxHeartbeats 8000000
namespace Go.Proofs.YthaadiclopoamaaGreatDoor
open Go.RowKit
open Lex (Tok)
open Df (Stp St tk Gd isT passB passS mustS takeB takeV takeS)

theorem Rd.tok {w : World} {b m : Nat} {ad : Option Addr} {T : List Tok} {cap : Nat} {q : St} (h : Rd w b m ad T cap q) (hi : q.i < T.length) : ∃ tb off, ad = some ⟨tb, off, none⟩ /\ tb < w.heap.size /\ w.cell? ⟨tb, off + q.i * 3, none⟩ = some (.int .i64 (tk T q.i).k) /\ w.cell? ⟨tb, off + q.i * 3 + 1, none⟩ = some (.string (tk T q.i).t) /\ w.cell? ⟨tb, off + q.i * 3 + 2, none⟩ = some (.int .i64 (tk T q.i).p) := by
 rw [Df.tk_get T q.i hi]
 exact h.ts q.i hi

theorem dHere_any (b m : Nat) (ad : Option Addr) (T : List Tok) (cap : Nat) (q : St) (w : World) (h : Rd w b m ad T cap q) (hi : q.i < T.length) :
  Calls Tryz.prog 135 #[.pointer (some ⟨b, 0, none⟩)] w fun e w' => e = .returned (.agg #[.int .i64 (tk T q.i).k, .string (tk T q.i).t, .int .i64 (tk T q.i).p]) /\ Gr w w' := by
 obtain ⟨tb, off, rfl, htb, t0, t1, t2⟩ := h.tok hi
 obtain ⟨c0, c1, c2, c3, f1, f2, lt, ts, na, mp, nm⟩ := h
 generalize tk T q.i = x at *
 obtain ⟨xk, xt, xp⟩ := x
 obtain ⟨i, s⟩ := q
 simp only at *
 clear ts na mp nm c2 c3 f1 f2
 go_enter Tryz.func135, Tryz.ntmps135
 go_wp2
 go_region
 go_wp2
 refine bodyPost_ret (v := .agg #[.int .i64 xk, .string xt, .int .i64 xp]) (by simp [results, Tryz.results135, go_sem]) rfl ⟨rfl, ?_⟩
 exact (by (with_reducible repeat' (first | exact Gr.refl _ | refine Gr.set ?_ _ ?_ _ | refine Gr.alloc ?_ | refine Gr.drew ?_ | refine Gr.trans ?_ (by assumption))) <;> (first | (simp; done) | (simp; omega) | omega))

theorem dTake_any (b m : Nat) (ad : Option Addr) (T : List Tok) (cap : Nat) (q : St) (k : Int) (w : World) (h : Rd w b m ad T cap q) (hT : Gd T) (hi : q.i < T.length) (hn : T.length <= 5000) :
  Calls Tryz.prog 159 #[.pointer (some ⟨b, 0, none⟩), .int .i64 k] w fun e w' => e = .returned (.string (takeV T q k)) /\ Rd w' b m ad T cap (takeS T q k) /\ GB b w w' := by
 have HH : Hid (∀ w', Rd w' b m ad T cap q -> Calls Tryz.prog 135 #[.pointer (some ⟨b, 0, none⟩)] w' fun e w2 => e = .returned (.agg #[.int .i64 (tk T q.i).k, .string (tk T q.i).t, .int .i64 (tk T q.i).p]) /\ Gr w' w2) := fun w' h' => dHere_any b m ad T cap q w' h' hi
 have HC : Hid (∀ w', Calls Tryz.prog 114 #[.string (tk T q.i).t] w' fun e w2 => e = .returned (.string (tk T q.i).t) /\ Gr w' w2) := fun w' => lClone_any _ w' (by have := hT.size q.i; omega)
 have HB : Hid (takeB T q k = (!q.s && decide ((tk T q.i).k = k))) := rfl
 have HV : Hid (takeV T q k = if takeB T q k = true then (tk T q.i).t else ⟨#[]⟩) := rfl
 have HS : Hid (takeS T q k = if takeB T q k = true then ⟨q.i + 1, q.s⟩ else ⟨q.i, true⟩) := rfl
 have HR : Hid (Rd w b m ad T cap q) := h
 obtain ⟨i, st⟩ := q
 simp only at *
 generalize takeV T ⟨i, st⟩ k = TV at *
 generalize takeS T ⟨i, st⟩ k = TS at *
 generalize takeB T ⟨i, st⟩ k = TB at *
 generalize tk T i = x at *
 obtain ⟨xk, xt, xp⟩ := x
 simp only at *
 have e2 : wrap64 ((i : Int) + 1) = ((i + 1 : Nat) : Int) := by unfold wrap64; omega
 obtain ⟨j, hj⟩ : ∃ j, j = i + 1 := ⟨_, rfl⟩
 rw [<- hj] at e2 HS
 clear hT hi hn h
 go_enter Tryz.func159, Tryz.ntmps159
 go_wp2_with fail
 refine (HH.out _ HR.out).mono ?_
 rintro e w1 ⟨rfl, hg1⟩
 have HG1 : Hid (Gr w w1) := hg1
 have HR1 : Hid (Rd (w1.alloc (.cells #[.int .i64 xk, .string xt, .int .i64 xp] 167)) b m ad T cap ⟨i, st⟩) := (HR.out.gr hg1).gr (Gr.refl _).alloc
 obtain ⟨c0, c1, c2, c3, f1, f2, lt, _, _, _, _⟩ := HR.out.gr hg1
 simp only at c0 c1 c2 c3
 clear hg1
 cases st with
 | true =>
  obtain rfl : TB = false := HB.out
  have ev : Hid (TV = ⟨#[]⟩ /\ TS = ⟨i, true⟩) := ⟨HV.out, HS.out⟩
  clear HB HV HS
  go_wp2
  go_ret
  refine ⟨by rw [ev.out.1]; rfl, ?_, ?_⟩
  ·rw [ev.out.2]
   first | exact HR1.out.set2 true | exact ((HR.out.gr HG1.out).set2 true).gr (Gr.refl _).alloc
  ·first | exact GB.setNew ((GB.ofGr HG1.out).alloc) ⟨b, _, none⟩ _ (Or.inr rfl) | exact GB.alloc (GB.setNew (GB.ofGr HG1.out) ⟨b, _, none⟩ _ (Or.inr rfl))
 | false =>
  by_cases hk : xk = k
  ·have e0 : (xk != k) = false := by simpa using hk
   obtain rfl : TB = true := by rw [HB.out, decide_eq_true hk]; rfl
   have ev : Hid (TV = xt /\ TS = ⟨j, false⟩) := ⟨HV.out, HS.out⟩
   clear HB HV HS hk hj
   go_wp2_with fail
   refine (HC.out _).mono ?_
   rintro e w2 ⟨rfl, hg2⟩
   have HG2 := Lib.hid hg2
   clear hg2
   go_wp2
   go_ret
   refine ⟨by rw [ev.out.1]; rfl, ?_, ?_⟩
   ·rw [ev.out.2]
    refine Rd.gr ?_ HG2.out
    first | exact HR1.out.set1 j | exact ((HR.out.gr HG1.out).set1 j).gr (Gr.refl _).alloc
   ·refine GB.gr ?_ HG2.out
    first | exact GB.setNew ((GB.ofGr HG1.out).alloc) ⟨b, _, none⟩ _ (Or.inr rfl) | exact GB.alloc (GB.setNew (GB.ofGr HG1.out) ⟨b, _, none⟩ _ (Or.inr rfl))
  ·have e0 : (xk != k) = true := by simpa using hk
   obtain rfl : TB = false := by rw [HB.out, decide_eq_false hk]; rfl
   have ev : Hid (TV = ⟨#[]⟩ /\ TS = ⟨i, true⟩) := ⟨HV.out, HS.out⟩
   clear HB HV HS hk hj
   go_wp2
   go_ret
   refine ⟨by rw [ev.out.1]; rfl, ?_, ?_⟩
   ·rw [ev.out.2]
    first | exact HR1.out.set2 true | exact ((HR.out.gr HG1.out).set2 true).gr (Gr.refl _).alloc
   ·first | exact GB.setNew ((GB.ofGr HG1.out).alloc) ⟨b, _, none⟩ _ (Or.inr rfl) | exact GB.alloc (GB.setNew (GB.ofGr HG1.out) ⟨b, _, none⟩ _ (Or.inr rfl))

theorem dPass_any (b m : Nat) (ad : Option Addr) (T : List Tok) (cap : Nat) (q : St) (k : Int) (t : ByteArray) (w : World) (h : Rd w b m ad T cap q) (hi : q.i < T.length) (hn : T.length <= 5000) :
  Calls Tryz.prog 160 #[.pointer (some ⟨b, 0, none⟩), .int .i64 k, .string t] w fun e w' => e = .returned (.bool (passB T q k t)) /\ Rd w' b m ad T cap (passS T q k t) /\ GB b w w' := by
 have HH : Hid (∀ w', Rd w' b m ad T cap q -> Calls Tryz.prog 135 #[.pointer (some ⟨b, 0, none⟩)] w' fun e w2 => e = .returned (.agg #[.int .i64 (tk T q.i).k, .string (tk T q.i).t, .int .i64 (tk T q.i).p]) /\ Gr w' w2) := fun w' h' => dHere_any b m ad T cap q w' h' hi
 have HB : Hid (passB T q k t = (!q.s && (decide ((tk T q.i).k = k) && decide ((tk T q.i).t = t)))) := rfl
 have HS : Hid (passS T q k t = if passB T q k t = true then ⟨q.i + 1, q.s⟩ else q) := rfl
 have HR : Hid (Rd w b m ad T cap q) := h
 obtain ⟨i, st⟩ := q
 simp only at *
 generalize passS T ⟨i, st⟩ k t = TS at *
 generalize passB T ⟨i, st⟩ k t = TB at *
 generalize tk T i = x at *
 obtain ⟨xk, xt, xp⟩ := x
 simp only at *
 have e2 : wrap64 ((i : Int) + 1) = ((i + 1 : Nat) : Int) := by unfold wrap64; omega
 obtain ⟨j, hj⟩ : ∃ j, j = i + 1 := ⟨_, rfl⟩
 rw [<- hj] at e2 HS
 have ht := text_ne xt t.data.toList
 rw [Lex.bytes_list, <- show t.toList = t.data.toList from ByteArray.toList_eq t] at ht
 clear hi hn h
 go_enter Tryz.func160, Tryz.ntmps160
 go_wp2_with fail
 refine (HH.out _ HR.out).mono ?_
 rintro e w1 ⟨rfl, hg1⟩
 have HG1 : Hid (Gr w w1) := hg1
 have HR1 : Hid (Rd (w1.alloc (.cells #[.int .i64 xk, .string xt, .int .i64 xp] 167)) b m ad T cap ⟨i, st⟩) := (HR.out.gr hg1).gr (Gr.refl _).alloc
 obtain ⟨c0, c1, c2, c3, f1, f2, lt, _, _, _, _⟩ := HR.out.gr hg1
 simp only at c0 c1 c2 c3
 clear hg1
 cases st with
 | true =>
  obtain rfl : TB = false := HB.out
  have ev : Hid (TS = ⟨i, true⟩) := HS.out
  clear HB HS ht hj
  go_wp2
  go_ret
  exact ⟨rfl, by rw [ev.out]; exact HR1.out, (GB.ofGr HG1.out).alloc⟩
 | false =>
  by_cases hk : xk = k
  ·have e0 : (xk != k) = false := by simpa using hk
   by_cases h2 : xt = t
   ·obtain rfl : TB = true := by rw [HB.out, decide_eq_true hk, decide_eq_true h2]; rfl
    have ev : Hid (TS = ⟨j, false⟩) := HS.out
    rw [decide_eq_true h2] at ht
    have ht2 : (xt.toList != t.toList) = false := ht
    have ht3 : (xt.toList == t.toList) = true := by simpa using ht2
    clear HB HS hk h2 ht hj
    go_wp2
    go_ret
    refine ⟨rfl, ?_, ?_⟩
    ·rw [ev.out]
     first | exact HR1.out.set1 j | exact ((HR.out.gr HG1.out).set1 j).gr (Gr.refl _).alloc
    ·first | exact GB.setNew ((GB.ofGr HG1.out).alloc) ⟨b, _, none⟩ _ (Or.inr rfl) | exact GB.alloc (GB.setNew (GB.ofGr HG1.out) ⟨b, _, none⟩ _ (Or.inr rfl))
   ·obtain rfl : TB = false := by rw [HB.out, decide_eq_false h2]; simp
    have ev : Hid (TS = ⟨i, false⟩) := HS.out
    rw [decide_eq_false h2] at ht
    have ht2 : (xt.toList != t.toList) = true := ht
    have ht3 : (xt.toList == t.toList) = false := by simpa using ht2
    clear HB HS hk h2 ht hj
    go_wp2
    go_ret
    exact ⟨rfl, by rw [ev.out]; exact HR1.out, (GB.ofGr HG1.out).alloc⟩
  ·have e0 : (xk != k) = true := by simpa using hk
   obtain rfl : TB = false := by rw [HB.out, decide_eq_false hk]; rfl
   have ev : Hid (TS = ⟨i, false⟩) := HS.out
   clear HB HS hk hj ht
   go_wp2
   go_ret
   exact ⟨rfl, by rw [ev.out]; exact HR1.out, (GB.ofGr HG1.out).alloc⟩

theorem dMust_any (b m : Nat) (ad : Option Addr) (T : List Tok) (cap : Nat) (q : St) (k : Int) (t : ByteArray) (w : World) (h : Rd w b m ad T cap q) (hi : q.i < T.length) (hn : T.length <= 5000) :
  Calls Tryz.prog 158 #[.pointer (some ⟨b, 0, none⟩), .int .i64 k, .string t] w fun e w' => e = .returned (.tuple #[]) /\ Rd w' b m ad T cap (mustS T q k t) /\ GB b w w' := by
 have HP : Hid (Calls Tryz.prog 160 #[.pointer (some ⟨b, 0, none⟩), .int .i64 k, .string t] w fun e w' => e = .returned (.bool (passB T q k t)) /\ Rd w' b m ad T cap (passS T q k t) /\ GB b w w') := dPass_any b m ad T cap q k t w h hi hn
 have HS : Hid (mustS T q k t = if passB T q k t = true then ⟨q.i + 1, q.s⟩ else ⟨q.i, true⟩) := rfl
 have HS2 : Hid (passS T q k t = if passB T q k t = true then ⟨q.i + 1, q.s⟩ else q) := rfl
 generalize mustS T q k t = MS at *
 generalize passS T q k t = TS at *
 generalize passB T q k t = TB at *
 clear hi hn h
 cases TB with
 | true =>
  have ev : Hid (MS = TS) := HS.out.trans HS2.out.symm
  clear HS HS2
  go_enter Tryz.func158, Tryz.ntmps158
  go_wp2_with fail
  refine HP.out.mono ?_
  rintro e w1 ⟨rfl, hr, hg⟩
  have HR1 := Lib.hid hr
  have HG1 := Lib.hid hg
  clear hr hg
  go_wp2
  go_end0
  exact ⟨rfl, by rw [ev.out]; exact HR1.out, HG1.out⟩
 | false =>
  have ev : Hid (TS = q /\ MS = ⟨q.i, true⟩) := ⟨HS2.out, HS.out⟩
  clear HS HS2
  go_enter Tryz.func158, Tryz.ntmps158
  go_wp2_with fail
  refine HP.out.mono ?_
  rintro e w1 ⟨rfl, hr, hg⟩
  rw [ev.out.1] at hr
  have HR1 := Lib.hid hr
  have HG1 := Lib.hid hg
  obtain ⟨c0, c1, c2, c3, f1, f2, lt, _, _, _, _⟩ := hr
  clear hg
  go_wp2
  go_end0
  exact ⟨rfl, by rw [ev.out.2]; exact HR1.out.set2 true, HG1.out.setNew _ _ (Or.inr rfl)⟩
end Go.Proofs.YthaadiclopoamaaGreatDoor
/- lexic: Value; and the document's. -/
set_option maxRecDepth 100000
set_option maxHeartbeats 8000000
namespace Go.Proofs.YthaadiclopoamaaGreatDoor
open Go.RowKit
open _root_.Go.Proofs.YthaadiclopoamaaGreatDoor.Act (letB digB sgnB nameB)
open Lex (Tok numB sigB vl valE valB)

theorem refDigit_any (b : UInt8) (w : World) : Calls Tryz.prog 138 #[.int .u8 (b.toNat : Int)] w fun e w' => e = .returned (.bool (digB b)) /\ w' = w := by
 unfold Act.digB
 by_cases h0 : (48 : Int) <= (b.toNat : Int)
 ·by_cases h1 : (b.toNat : Int) <= 57
  ·rw [decide_eq_true h0, decide_eq_true h1]
   go_enter Tryz.func138, Tryz.ntmps138
   go_wp2
   go_ret
   exact ⟨rfl, rfl⟩
  ·rw [decide_eq_true h0, decide_eq_false h1]
   go_enter Tryz.func138, Tryz.ntmps138
   go_wp2
   go_ret
   exact ⟨rfl, rfl⟩
 ·rw [decide_eq_false h0]
  go_enter Tryz.func138, Tryz.ntmps138
  go_wp2
  go_ret
  exact ⟨rfl, rfl⟩
theorem refSmall_any (b : UInt8) (w : World) : Calls Tryz.prog 137 #[.int .u8 (b.toNat : Int)] w fun e w' => e = .returned (.bool (letB b)) /\ w' = w := by
 unfold Act.letB
 by_cases h0 : (97 : Int) <= (b.toNat : Int)
 ·by_cases h1 : (b.toNat : Int) <= 122
  ·rw [decide_eq_true h0, decide_eq_true h1]
   go_enter Tryz.func137, Tryz.ntmps137
   go_wp2
   go_ret
   exact ⟨rfl, rfl⟩
  ·rw [decide_eq_true h0, decide_eq_false h1]
   go_enter Tryz.func137, Tryz.ntmps137
   go_wp2
   go_ret
   exact ⟨rfl, rfl⟩
 ·rw [decide_eq_false h0]
  go_enter Tryz.func137, Tryz.ntmps137
  go_wp2
  go_ret
  exact ⟨rfl, rfl⟩
theorem refSign_any (s : ByteArray) (w : World) : Calls Tryz.prog 140 #[.string s] w fun e w' => e = .returned (.bool (sigB s)) /\ w' = w := by
 have a0 := text_eq s [123]
 have a1 := text_eq s [125]
 have a2 := text_eq s [59]
 rw [show (⟨[123].toArray⟩ : ByteArray) = ⟨#[123]⟩ from rfl] at a0
 rw [show (⟨[125].toArray⟩ : ByteArray) = ⟨#[125]⟩ from rfl] at a1
 rw [show (⟨[59].toArray⟩ : ByteArray) = ⟨#[59]⟩ from rfl] at a2
 have HE : Hid (sigB s = (decide (s = ⟨#[123]⟩) || decide (s = ⟨#[125]⟩) || decide (s = ⟨#[59]⟩))) := rfl
 generalize decide (s = ⟨#[123]⟩) = c0 at a0 HE
 generalize decide (s = ⟨#[125]⟩) = c1 at a1 HE
 generalize decide (s = ⟨#[59]⟩) = c2 at a2 HE
 rw [HE.out]
 cases c0 <;> cases c1 <;> cases c2
 all_goals
  go_enter Tryz.func140, Tryz.ntmps140
  go_wp2
  go_ret
  exact ⟨rfl, rfl⟩

theorem lRefNumber_any (s : ByteArray) (w : World) (hs : s.size <= 9223372036854775807) : Calls Tryz.prog 139 #[.string s] w fun e w' => e = .returned (.bool (numB s)) /\ w' = w := by
 by_cases hz : (s.size : Int) < 1
 ·have HE : Hid (numB s = false) := Lex.num_empty s (by omega)
  go_enter Tryz.func139, Tryz.ntmps139
  go_wp2
  go_ret
  exact ⟨by rw [HE.out]; rfl, rfl⟩
 have hp : 0 < s.size := by omega
 by_cases h16 : (16 : Int) < (s.size : Int)
 ·have HE : Hid (numB s = false) := Lex.num_long s (by omega)
  go_enter Tryz.func139, Tryz.ntmps139
  go_wp2
  go_ret
  exact ⟨by rw [HE.out]; rfl, rfl⟩
 have HD : Hid (∀ (b : UInt8) (w : World), Calls Tryz.prog 138 #[.int .u8 (b.toNat : Int)] w fun e w' => e = .returned (.bool (digB b)) /\ w' = w) := refDigit_any
 go_enter Tryz.func139, Tryz.ntmps139
 go_wp2
 go_loop [3] (fun i => ∃ k : Nat, k <= s.size /\ i = .int .i64 k /\ ∀ j (hj : j < s.size), j < k -> digB (s[j]'hj) = true) (fun i => s.size - (intOf i).toNat)
 case atStart => exact ⟨0, by omega, rfl, fun j hj h => absurd h (by omega)⟩
 case round =>
  obtain ⟨k, hk, rfl, hall⟩ := hrel
  have HA : Hid (∀ j (hj : j < s.size), j < k -> digB (s[j]'hj) = true) := hall
  clear hall
  by_cases hlt : k < s.size
  ·cases hdk : digB (s[k]'hlt) with
   | true =>
    have HS : Hid (digB (s[k]'hlt) = true) := hdk
    go_wp2_with fail
    refine (HD.out (s[k]'hlt) _).mono ?_
    rintro e w1 ⟨rfl, hw1⟩; obtain rfl := hw1.symm
    go_wp2
    go_round
    case rel => exact ⟨k + 1, by omega, by go_num, fun j hj h => if e : j = k then by subst e; exact HS.out else HA.out j hj (by omega)⟩
    case measure => simp [intOf]; omega
   | false =>
    have HE : Hid (numB s = false) := Lex.num_sign s k hlt hdk
    go_wp2_with fail
    refine (HD.out (s[k]'hlt) _).mono ?_
    rintro e w1 ⟨rfl, hw1⟩; obtain rfl := hw1.symm
    go_wp2
    go_ret
    exact ⟨by rw [HE.out]; rfl, rfl⟩
  ·have HE : Hid (numB s = (decide (s.size = 1) || !decide (((s[0]'hp).toNat : Int) = 48))) := Lex.num_all s hp (by omega) (fun j hj => HA.out j hj (by omega))
   by_cases h1 : s.size = 1
   ·rw [decide_eq_true h1] at HE
    have e1 : ((s.size : Int) == 1) = true := by rw [beq_iff_eq]; omega
    clear h1
    go_wp2
    go_ret
    exact ⟨by rw [HE.out]; rfl, rfl⟩
   ·rw [decide_eq_false h1] at HE
    have e1 : ((s.size : Int) == 1) = false := by
     rw [beq_eq_false_iff_ne]; omega
    by_cases h48 : ((s[0]'hp).toNat : Int) = 48
    ·rw [decide_eq_true h48] at HE
     have e2 : (((s[0]'hp).toNat : Int) != 48) = false := by simpa using h48
     clear h48 h1
     go_wp2
     go_ret
     exact ⟨by rw [HE.out]; rfl, rfl⟩
    ·rw [decide_eq_false h48] at HE
     have e2 : (((s[0]'hp).toNat : Int) != 48) = true := by simpa using h48
     clear h48 h1
     go_wp2
     go_ret
     exact ⟨by rw [HE.out]; rfl, rfl⟩

theorem lValue_any (k : Int) (s : ByteArray) (p : Int) (w : World) (hs : s.size <= 9223372036854775807) : Calls Tryz.prog 181 #[.agg #[.int .i64 k, .string s, .int .i64 p]] w fun e w' => e = .returned (.tuple #[.int .i64 (valE k s), .bool (valB k s)]) /\ Gr w w' := by
 by_cases h2 : k = 2
 ·subst h2
  have HN : Hid (∀ w : World, Calls Tryz.prog 173 #[.string s] w fun e w' => e = .returned (.bool (numB s)) /\ Gr w w') := fun w => isNumber_any s w hs
  cases hnb : numB s with
  | false =>
   have E1 : valE 2 s = 0 := by unfold Lex.valE; rw [if_neg]; rw [hnb]; simp
   have E2 : valB 2 s = false := by unfold Lex.valB; rw [hnb]; rfl
   rw [E1, E2]
   rw [hnb] at HN
   go_enter Tryz.func181, Tryz.ntmps181
   go_wp2_with fail
   refine (HN.out _).mono ?_
   rintro e w1 ⟨rfl, hg1⟩
   go_wp2
   go_ret2
   exact ⟨rfl, (by repeat(first|exact Gr.r _|refine Gr.a ?_|refine Gr.d ?_|refine Gr.t ?_ (by assumption)))⟩
  | true =>
   have E1 : valE 2 s = vl s.data.toList 0 := by unfold Lex.valE; rw [if_pos ⟨rfl, hnb⟩]
   have E2 : valB 2 s = true := by unfold Lex.valB; rw [hnb]; rfl
   obtain ⟨p1, p16, pd⟩ := Lex.num_parts hnb
   rw [E2, E1]
   rw [hnb] at HN
   have hl : s.data.toList.length = s.size := by simp
   have HV : Hid (∀ j (hj : j < s.size), vl (s.data.toList.take (j + 1)) 0 = vl (s.data.toList.take j) 0 * 10 + (((s[j]'hj).toNat : Int) - 48)) := fun j hj => Lex.vl_take s.data.toList j (by omega)
   have HR : Hid (∀ j, 0 <= vl (s.data.toList.take j) 0 /\ vl (s.data.toList.take j) 0 < 10000000000000000) := fun j => Lex.vl_rng _ (by rw [List.length_take]; omega) (fun b hb => by
    obtain ⟨i, hi, rfl⟩ := List.getElem_of_mem (List.mem_of_mem_take hb)
    exact pd i (by omega))
   have HD : Hid (∀ j (hj : j < s.size), (48 : Int) <= ((s[j]'hj).toNat : Int) /\ ((s[j]'hj).toNat : Int) <= 57) := fun j hj => by
    have := pd j hj
    unfold Act.digB at this; simpa only [Bool.and_eq_true, decide_eq_true_eq] using this
   have HL : Hid (s.data.toList.take s.size = s.data.toList) := by show _ = _; rw [<- hl, List.take_length]
   clear hnb E1 E2 pd hl
   generalize s.data.toList = L at *
   go_enter Tryz.func181, Tryz.ntmps181
   go_wp2_with fail
   refine (HN.out _).mono ?_
   rintro e w1 ⟨rfl, hg1⟩
   have hx1 := (BoxAt.new w (.int .i64 2) (.string s) (.int .i64 p) 167 _ rfl).gr hg1
   have HG1 : Hid (Gr w w1) := (Gr.refl _).alloc.trans hg1
   obtain ⟨x0, x1, x2, _, _, _, xl⟩ := hx1
   clear hg1
   go_wp2
   go_loop [4, 18] (fun n i => ∃ j : Nat, j <= s.size /\ i = .int .i64 (j : Int) /\ n = .int .i64 (vl (L.take j) 0)) (fun _ i => s.size - (intOf i).toNat)
   case atStart => exact ⟨0, by omega, rfl, rfl⟩
   case round =>
    obtain ⟨j, hj, rfl, rfl⟩ := hrel
    by_cases hlt : j < s.size
    ·have hv := HV.out j hlt
     obtain ⟨r0, r1⟩ := HR.out j
     obtain ⟨d0, d1⟩ := HD.out j hlt
     have w1' : wrap64 (vl (L.take j) 0 * 10) = vl (L.take j) 0 * 10 := by unfold wrap64; omega
     have w2' : IntKind.u8.wrap (((s[j]'hlt).toNat : Int) - 48) = ((s[j]'hlt).toNat : Int) - 48 := by rw [IntKind.wrap_u8]; omega
     have w3' : wrap64 (((s[j]'hlt).toNat : Int) - 48) = ((s[j]'hlt).toNat : Int) - 48 := by unfold wrap64; omega
     have w4' : wrap64 (vl (L.take j) 0 * 10 + (((s[j]'hlt).toNat : Int) - 48)) = vl (L.take (j + 1)) 0 := by rw [hv]; unfold wrap64; omega
     have HV2 : Hid (vl (L.take j) 0 * 10 + (((s[j]'hlt).toNat : Int) - 48) = vl (L.take (j + 1)) 0) := hv.symm
     clear hv
     go_wp2
     go_round
     case rel => exact ⟨j + 1, by omega, by go_num, by rw [<- HV2.out]⟩
     case measure => simp [intOf]; omega
    ·obtain rfl : j = s.size := by omega
     rw [HL.out]
     go_wp2
     go_ret2
     exact ⟨rfl, HG1.out⟩
 ·have E1 : valE k s = 0 := by unfold Lex.valE; rw [if_neg (fun h => h2 h.1)]
  have E2 : valB k s = false := by unfold Lex.valB; rw [decide_eq_false h2]; rfl
  rw [E1, E2]
  have e2 : (k != 2) = true := by simpa using h2
  clear h2
  go_enter Tryz.func181, Tryz.ntmps181
  go_wp2
  go_ret2
  exact ⟨rfl, (by repeat(first|exact Gr.r _|refine Gr.a ?_|refine Gr.d ?_|refine Gr.t ?_ (by assumption)))⟩
theorem refValue_any (k : Int) (s : ByteArray) (p : Int) (w : World) (hs : s.size <= 9223372036854775807) : Calls Tryz.prog 165 #[.agg #[.int .i64 k, .string s, .int .i64 p]] w fun e w' => e = .returned (.tuple #[.int .i64 (valE k s), .bool (valB k s)]) /\ Gr w w' := by
 by_cases h2 : k = 2
 ·subst h2
  have HN : Hid (∀ w : World, Calls Tryz.prog 139 #[.string s] w fun e w' => e = .returned (.bool (numB s)) /\ w' = w) := fun w => lRefNumber_any s w hs
  cases hnb : numB s with
  | false =>
   have E1 : valE 2 s = 0 := by unfold Lex.valE; rw [if_neg]; rw [hnb]; simp
   have E2 : valB 2 s = false := by unfold Lex.valB; rw [hnb]; rfl
   rw [E1, E2]
   rw [hnb] at HN
   go_enter Tryz.func165, Tryz.ntmps165
   go_wp2_with fail
   refine (HN.out _).mono ?_
   rintro e w1 ⟨rfl, hw1⟩; subst hw1
   go_wp2
   go_ret2
   exact ⟨rfl, (by repeat(first|exact Gr.r _|refine Gr.a ?_|refine Gr.d ?_|refine Gr.t ?_ (by assumption)))⟩
  | true =>
   have E1 : valE 2 s = vl s.data.toList 0 := by unfold Lex.valE; rw [if_pos ⟨rfl, hnb⟩]
   have E2 : valB 2 s = true := by unfold Lex.valB; rw [hnb]; rfl
   obtain ⟨p1, p16, pd⟩ := Lex.num_parts hnb
   rw [E2, E1]
   rw [hnb] at HN
   have hl : s.data.toList.length = s.size := by simp
   have HV : Hid (∀ j (hj : j < s.size), vl (s.data.toList.take (j + 1)) 0 = vl (s.data.toList.take j) 0 * 10 + (((s[j]'hj).toNat : Int) - 48)) := fun j hj => Lex.vl_take s.data.toList j (by omega)
   have HR : Hid (∀ j, 0 <= vl (s.data.toList.take j) 0 /\ vl (s.data.toList.take j) 0 < 10000000000000000) := fun j => Lex.vl_rng _ (by rw [List.length_take]; omega) (fun b hb => by
    obtain ⟨i, hi, rfl⟩ := List.getElem_of_mem (List.mem_of_mem_take hb)
    exact pd i (by omega))
   have HD : Hid (∀ j (hj : j < s.size), (48 : Int) <= ((s[j]'hj).toNat : Int) /\ ((s[j]'hj).toNat : Int) <= 57) := fun j hj => by
    have := pd j hj
    unfold Act.digB at this; simpa only [Bool.and_eq_true, decide_eq_true_eq] using this
   have HL : Hid (s.data.toList.take s.size = s.data.toList) := by show _ = _; rw [<- hl, List.take_length]
   clear hnb E1 E2 pd hl
   generalize s.data.toList = L at *
   go_enter Tryz.func165, Tryz.ntmps165
   go_wp2_with fail
   refine (HN.out _).mono ?_
   rintro e w1 ⟨rfl, hw1⟩; subst hw1
   have hx1 := (BoxAt.new w (.int .i64 2) (.string s) (.int .i64 p) 167 _ rfl)
   have HG1 : Hid (Gr w (w.alloc (.cells #[.int .i64 2, .string s, .int .i64 p] 167))) := (Gr.refl _).alloc
   obtain ⟨x0, x1, x2, _, _, _, xl⟩ := hx1
   go_wp2
   go_loop [4, 5] (fun n i => ∃ j : Nat, j <= s.size /\ i = .int .i64 (j : Int) /\ n = .int .i64 (vl (L.take j) 0)) (fun _ i => s.size - (intOf i).toNat)
   case atStart => exact ⟨0, by omega, rfl, rfl⟩
   case round =>
    obtain ⟨j, hj, rfl, rfl⟩ := hrel
    by_cases hlt : j < s.size
    ·have hv := HV.out j hlt
     obtain ⟨r0, r1⟩ := HR.out j
     obtain ⟨d0, d1⟩ := HD.out j hlt
     have w1' : wrap64 (10 * vl (L.take j) 0) = 10 * vl (L.take j) 0 := by unfold wrap64; omega
     have w2' : wrap64 (((s[j]'hlt).toNat : Int)) = ((s[j]'hlt).toNat : Int) := by unfold wrap64; omega
     have w3' : wrap64 (10 * vl (L.take j) 0 + ((s[j]'hlt).toNat : Int)) = 10 * vl (L.take j) 0 + ((s[j]'hlt).toNat : Int) := by unfold wrap64; omega
     have w4' : wrap64 (10 * vl (L.take j) 0 + ((s[j]'hlt).toNat : Int) - 48) = vl (L.take (j + 1)) 0 := by rw [hv]; unfold wrap64; omega
     have HV2 : Hid (10 * vl (L.take j) 0 + ((s[j]'hlt).toNat : Int) - 48 = vl (L.take (j + 1)) 0) := by show _ = _; omega
     clear hv
     go_wp2
     go_round
     case rel => exact ⟨j + 1, by omega, by go_num, by rw [<- HV2.out]⟩
     case measure => simp [intOf]; omega
    ·obtain rfl : j = s.size := by omega
     rw [HL.out]
     go_wp2
     go_ret2
     exact ⟨rfl, HG1.out⟩
 ·have E1 : valE k s = 0 := by unfold Lex.valE; rw [if_neg (fun h => h2 h.1)]
  have E2 : valB k s = false := by unfold Lex.valB; rw [decide_eq_false h2]; rfl
  rw [E1, E2]
  have e2 : (k != 2) = true := by simpa using h2
  clear h2
  go_enter Tryz.func165, Tryz.ntmps165
  go_wp2
  go_ret2
  exact ⟨rfl, (by repeat(first|exact Gr.r _|refine Gr.a ?_|refine Gr.d ?_|refine Gr.t ?_ (by assumption)))⟩
end Go.Proofs.YthaadiclopoamaaGreatDoor
