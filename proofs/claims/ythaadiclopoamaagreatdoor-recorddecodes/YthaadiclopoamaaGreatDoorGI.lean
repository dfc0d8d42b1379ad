/- Parts of these proofs, laid together. -/
import Derived.Test.YthaadiclopoamaaGreatDoorGH
import Derived.Test.YthaadiclopoamaaGreatDoorGE
import Derived.Deep.DeepCutAuto
import Derived.Test.YthaadiclopoamaaGreatDoorGD
/- def: the methods of a reader. -/
set_option maxRecDepth 100000
set_option maxHeartbeats 8000000
namespace Go.Proofs.YthaadiclopoamaaGreatDoor
open Go.RowKit Go.Maps
open Lex (Tok valE valB)
open Df (Stp St tk Gd isT passB passS mustS takeB takeV takeS numV cntV optV optS kndV kndS kw)

theorem take_lt {T : List Tok} (hT : Gd T) {q : St} (k : Int) (h0 : k ≠ 0) (h : q.i < T.length) : (takeS T q k).i < T.length := by
 unfold Df.takeS
 by_cases hb : takeB T q k = true
 ·rw [if_pos hb]
  unfold Df.takeB at hb
  simp only [Bool.and_eq_true, decide_eq_true_eq] at hb
  exact hT.next (by rw [hb.2]; exact h0)
 ·rw [if_neg hb]; exact h
theorem pass_lt {T : List Tok} (hT : Gd T) {q : St} (k : Int) (s : ByteArray) (h0 : k ≠ 0) (h : q.i < T.length) : (passS T q k s).i < T.length := by
 unfold Df.passS
 by_cases hb : passB T q k s = true
 ·rw [if_pos hb]
  unfold Df.passB at hb
  simp only [Bool.and_eq_true] at hb
  exact hT.next (by rw [((Df.isT_iff _ _ _).1 hb.2).1]; exact h0)
 ·rw [if_neg hb]; exact h
theorem must_lt {T : List Tok} (hT : Gd T) {q : St} (k : Int) (s : ByteArray) (h0 : k ≠ 0) (h : q.i < T.length) : (mustS T q k s).i < T.length := by
 unfold Df.mustS
 by_cases hb : passB T q k s = true
 ·rw [if_pos hb]
  unfold Df.passB at hb
  simp only [Bool.and_eq_true] at hb
  exact hT.next (by rw [((Df.isT_iff _ _ _).1 hb.2).1]; exact h0)
 ·rw [if_neg hb]; exact h
theorem opt_lt {T : List Tok} (hT : Gd T) {q : St} (wd : ByteArray) (h : q.i < T.length) : (optS T q wd).i < T.length := by
 unfold Df.optS
 by_cases hb : passB T q 1 wd = true
 ·rw [if_pos hb]; exact take_lt hT 2 (by decide) (pass_lt hT 1 wd (by decide) h)
 ·rw [if_neg hb]; exact h
theorem knd_lt {T : List Tok} (hT : Gd T) {q : St} (h : q.i < T.length) : (kndS T q).i < T.length := by
 unfold Df.kndS
 refine take_lt hT 1 (by decide) ?_
 split
 ·exact h
 ·exact h
theorem takeV_size {T : List Tok} (hT : Gd T) (q : St) (k : Int) : (takeV T q k).size <= 16 := by
 unfold Df.takeV
 split
 ·exact hT.size q.i
 ·decide

theorem dNumber_any (b m : Nat) (ad : Option Addr) (T : List Tok) (cap : Nat) (q : St) (w : World) (h : Rd w b m ad T cap q) (hT : Gd T) (hi : q.i < T.length) (hn : T.length <= 5000) :
  Calls Tryz.prog 177 #[.pointer (some ⟨b, 0, none⟩)] w fun e w' => e = .returned (.int .i64 (numV T q)) /\ Rd w' b m ad T cap (takeS T q 2) /\ GB b w w' := by
 have H1 : Hid (Calls Tryz.prog 159 #[.pointer (some ⟨b, 0, none⟩), .int .i64 2] w fun e w' => e = .returned (.string (takeV T q 2)) /\ Rd w' b m ad T cap (takeS T q 2) /\ GB b w w') := dTake_any b m ad T cap q 2 w h hT hi hn
 have H2 : Hid (∀ w', Calls Tryz.prog 181 #[.agg #[.int .i64 2, .string (takeV T q 2), .int .i64 0]] w' fun e w2 => e = .returned (.tuple #[.int .i64 (valE 2 (takeV T q 2)), .bool (valB 2 (takeV T q 2))]) /\ Gr w' w2) := fun w' => lValue_any 2 (takeV T q 2) 0 w' (by have := takeV_size hT q 2; omega)
 have HN : Hid (numV T q = valE 2 (takeV T q 2)) := rfl
 generalize numV T q = NV at *
 generalize takeV T q 2 = TV at *
 generalize takeS T q 2 = TS at *
 clear hi hn hT h
 go_enter Tryz.func177, Tryz.ntmps177
 go_wp2_with fail
 refine H1.out.mono ?_
 rintro e w1 ⟨rfl, hr, hg⟩
 have HR1 := Lib.hid hr
 have HG1 := Lib.hid hg
 clear hr hg
 go_wp2_with fail
 refine (H2.out _).mono ?_
 rintro e w2 ⟨rfl, hg⟩
 have HG2 := Lib.hid hg
 clear hg
 go_wp2
 go_ret
 exact ⟨by rw [HN.out]; rfl, HR1.out.gr HG2.out, HG1.out.gr HG2.out⟩

theorem tok_text (k p : Int) (t : ByteArray) (W : World) : (Instr.field 167 (.agg #[.int .i64 k, .string t, .int .i64 p]) 1).run Tryz.prog W = .ok (.string t) W := by kernel_rfl

theorem dCount_any (b m : Nat) (ad : Option Addr) (T : List Tok) (cap : Nat) (q : St) (w : World) (h : Rd w b m ad T cap q) (hT : Gd T) (hi : q.i < T.length) (hn : T.length <= 5000) :
  Calls Tryz.prog 174 #[.pointer (some ⟨b, 0, none⟩)] w fun e w' => e = .returned (.int .i64 (cntV T q)) /\ Rd w' b m ad T cap (takeS T q 2) /\ GB b w w' := by
 have H1 : Hid (Calls Tryz.prog 135 #[.pointer (some ⟨b, 0, none⟩)] w fun e w2 => e = .returned (.agg #[.int .i64 (tk T q.i).k, .string (tk T q.i).t, .int .i64 (tk T q.i).p]) /\ Gr w w2) := dHere_any b m ad T cap q w h hi
 have H2 : Hid (∀ w', Gr w w' -> Calls Tryz.prog 177 #[.pointer (some ⟨b, 0, none⟩)] w' fun e w2 => e = .returned (.int .i64 (numV T q)) /\ Rd w2 b m ad T cap (takeS T q 2) /\ GB b w' w2) := fun w' g => dNumber_any b m ad T cap q w' (h.gr g) hT hi hn
 have HN : Hid (cntV T q = if 9 < (tk T q.i).t.size then -1 else numV T q) := rfl
 have hsz := hT.size q.i
 generalize cntV T q = CV at *
 generalize numV T q = NV at *
 generalize takeS T q 2 = TS at *
 generalize tk T q.i = x at *
 obtain ⟨xk, xt, xp⟩ := x
 simp only at *
 have hft := tok_text xk xp xt
 clear hi hn hT h
 by_cases h9 : 9 < xt.size
 ·have h9i : (9 : Int) < (xt.size : Int) := by omega
  rw [if_pos h9] at HN
  go_enter Tryz.func174, Tryz.ntmps174
  go_wp2_with fail
  refine H1.out.mono ?_
  rintro e w1 ⟨rfl, hg⟩
  have HG1 := Lib.hid hg
  clear hg
  go_wp2_with fail
  refine (H2.out _ HG1.out).mono ?_
  rintro e w2 ⟨rfl, hr, hg⟩
  have HR2 := Lib.hid hr
  have HG2 := Lib.hid hg
  clear hr hg
  go_wp2
  go_ret
  exact ⟨by rw [HN.out]; rfl, HR2.out, (GB.ofGr HG1.out).trans HG2.out⟩
 ·have h9i : ¬ (9 : Int) < (xt.size : Int) := by omega
  rw [if_neg h9] at HN
  go_enter Tryz.func174, Tryz.ntmps174
  go_wp2_with fail
  refine H1.out.mono ?_
  rintro e w1 ⟨rfl, hg⟩
  have HG1 := Lib.hid hg
  clear hg
  go_wp2_with fail
  refine (H2.out _ HG1.out).mono ?_
  rintro e w2 ⟨rfl, hr, hg⟩
  have HR2 := Lib.hid hr
  have HG2 := Lib.hid hg
  clear hr hg
  go_wp2
  go_ret
  exact ⟨by rw [HN.out]; rfl, HR2.out, (GB.ofGr HG1.out).trans HG2.out⟩

theorem dOption_any (b m : Nat) (ad : Option Addr) (T : List Tok) (cap : Nat) (q : St) (wd : ByteArray) (n : Int) (w : World) (h : Rd w b m ad T cap q) (hT : Gd T) (hi : q.i < T.length) (hn : T.length <= 5000) :
  Calls Tryz.prog 175 #[.pointer (some ⟨b, 0, none⟩), .string wd, .int .i64 n] w fun e w' => e = .returned (.int .i64 (optV T q wd n)) /\ Rd w' b m ad T cap (optS T q wd) /\ GB b w w' := by
 have H1 : Hid (Calls Tryz.prog 160 #[.pointer (some ⟨b, 0, none⟩), .int .i64 1, .string wd] w fun e w' => e = .returned (.bool (passB T q 1 wd)) /\ Rd w' b m ad T cap (passS T q 1 wd) /\ GB b w w') := dPass_any b m ad T cap q 1 wd w h hi hn
 have H2 : Hid (∀ w', Rd w' b m ad T cap (passS T q 1 wd) -> Calls Tryz.prog 174 #[.pointer (some ⟨b, 0, none⟩)] w' fun e w2 => e = .returned (.int .i64 (cntV T (passS T q 1 wd))) /\ Rd w2 b m ad T cap (takeS T (passS T q 1 wd) 2) /\ GB b w' w2) := fun w' g => dCount_any b m ad T cap _ w' g hT (pass_lt hT 1 wd (by decide) hi) hn
 have HV : Hid (optV T q wd n = if passB T q 1 wd = true then cntV T (passS T q 1 wd) else n) := rfl
 have HS : Hid (optS T q wd = if passB T q 1 wd = true then takeS T (passS T q 1 wd) 2 else q) := rfl
 have HS2 : Hid (passS T q 1 wd = if passB T q 1 wd = true then ⟨q.i + 1, q.s⟩ else q) := rfl
 generalize optV T q wd n = OV at *
 generalize optS T q wd = OS at *
 generalize cntV T (passS T q 1 wd) = CV at *
 generalize takeS T (passS T q 1 wd) 2 = TS at *
 generalize passS T q 1 wd = PS at *
 generalize passB T q 1 wd = PB at *
 clear hi hn hT h
 cases PB with
 | true =>
  rw [if_pos rfl] at HV HS
  go_enter Tryz.func175, Tryz.ntmps175
  go_wp2_with fail
  refine H1.out.mono ?_
  rintro e w1 ⟨rfl, hr, hg⟩
  have HR1 := Lib.hid hr
  have HG1 := Lib.hid hg
  clear hr hg
  go_wp2_with fail
  refine (H2.out _ HR1.out).mono ?_
  rintro e w2 ⟨rfl, hr, hg⟩
  have HR2 := Lib.hid hr
  have HG2 := Lib.hid hg
  clear hr hg
  go_wp2
  go_ret
  exact ⟨by rw [HV.out]; rfl, by rw [HS.out]; exact HR2.out, HG1.out.trans HG2.out⟩
 | false =>
  rw [if_neg (by decide)] at HV HS HS2
  go_enter Tryz.func175, Tryz.ntmps175
  go_wp2_with fail
  refine H1.out.mono ?_
  rintro e w1 ⟨rfl, hr, hg⟩
  have HR1 := Lib.hid hr
  have HG1 := Lib.hid hg
  clear hr hg
  go_wp2
  go_ret
  exact ⟨by rw [HV.out]; rfl, by rw [HS.out, <- HS2.out]; exact HR1.out, HG1.out⟩

theorem lit_inj {a b : Int} {ps qs : List MemPlace} (h : ((DataW.lit (.int .i64 a) : DataW Unit), ps) = (.lit (.int .i64 b), qs)) : a = b := by cases h; rfl
theorem look_any {w : World} {m : Nat} (h : MapK w m) (t : ByteArray) (ht : t.size <= 9223372036854775807) : (Instr.lookup 180 (.map (some m)) (.string t) true).run Tryz.prog w = .ok (.tuple #[.int .i64 (kw t), .bool (decide (kw t ≠ 0))]) w := by
 obtain ⟨v, ps, hrun, hv⟩ := World.ownsMap.look_ok h strLaw Tryz.underlying180 (zeroInt w) (plainElem_int Tryz.underlying3 (by decide)) (key_any t ht)
 obtain ⟨c, rfl, hc, _⟩ := plainElem_int_inv Tryz.underlying3 hv
 rw [kD_at] at hc
 rw [hrun, kD_has]
 have : kw t = c := by
  by_cases h0 : kw t = 0
  ·rw [if_pos h0] at hc
   rw [h0]; exact lit_inj hc
  ·rw [if_neg h0] at hc
   exact lit_inj hc
 rw [this]
theorem holdK {w w' : World} {b m : Nat} {ad : Option Addr} {T : List Tok} {cap : Nat} {q : St} (h : Rd w b m ad T cap q) (t : ByteArray) (ht : t.size <= 16) (g : Gr w w') :
  Gr w w' /\ w'.cell? ⟨b, 3, none⟩ = some (.map (some m)) /\ (Instr.lookup 180 (.map (some m)) (.string t) true).run Tryz.prog w' = .ok (.tuple #[.int .i64 (kw t), .bool (decide (kw t ≠ 0))]) w' :=
 ⟨g, g.keep h.c3, look_any (h.mp.gr g) t (by omega)⟩

theorem dKind_any (b m : Nat) (ad : Option Addr) (T : List Tok) (cap : Nat) (q : St) (w : World) (h : Rd w b m ad T cap q) (hT : Gd T) (hi : q.i < T.length) (hn : T.length <= 5000) :
  Calls Tryz.prog 176 #[.pointer (some ⟨b, 0, none⟩)] w fun e w' => e = .returned (.int .i64 (kndV T q)) /\ Rd w' b m ad T cap (kndS T q) /\ GB b w w' := by
 have H1 : Hid (∀ w', Gr w w' -> Calls Tryz.prog 135 #[.pointer (some ⟨b, 0, none⟩)] w' fun e w2 => e = .returned (.agg #[.int .i64 (tk T q.i).k, .string (tk T q.i).t, .int .i64 (tk T q.i).p]) /\ Gr w' w2) := fun w' g => dHere_any b m ad T cap q w' (h.gr g) hi
 have H2 : Hid (∀ w', Rd w' b m ad T cap (if kw (tk T q.i).t = 0 then ⟨q.i, true⟩ else q) -> Calls Tryz.prog 159 #[.pointer (some ⟨b, 0, none⟩), .int .i64 1] w' fun e w2 => (∃ s, e = .returned (.string s)) /\ Rd w2 b m ad T cap (kndS T q) /\ GB b w' w2) := by
  intro w' g
  refine (dTake_any b m ad T cap _ 1 w' g hT (by split <;> exact hi) hn).mono ?_
  rintro e w2 ⟨rfl, hr, hg⟩
  exact ⟨⟨_, rfl⟩, hr, hg⟩
 have HV : Hid (kndV T q = kw (tk T q.i).t) := rfl
 have HR : Hid (Rd w b m ad T cap q) := h
 have HZ : Hid ((tk T q.i).t.size <= 16) := hT.size q.i
 generalize kndV T q = KV at *
 generalize kndS T q = KS at *
 generalize tk T q.i = x at *
 obtain ⟨xk, xt, xp⟩ := x
 simp only at *
 obtain ⟨c0, c1, c2, c3, f1, f2, lt, _, _, _, _⟩ := h
 have hft := tok_text xk xp xt
 clear hi hn hT c0 c1 c2 f1 f2
 go_enter Tryz.func176, Tryz.ntmps176
 go_upto_region 1 with fail
 refine wp_region_held_drew (S := (fun w' => Gr w w' /\ w'.cell? ⟨b, 3, none⟩ = some (.map (some m)) /\ (Instr.lookup 180 (.map (some m)) (.string xt) true).run Tryz.prog w' = .ok (.tuple #[.int .i64 (kw xt), .bool (decide (kw xt ≠ 0))]) w')) (by kernel_rfl) (by exact holdK HR.out xt HZ.out (by (with_reducible repeat' (first | exact Gr.refl _ | refine Gr.set ?_ _ ?_ _ | refine Gr.alloc ?_ | refine Gr.drew ?_ | refine Gr.trans ?_ (by assumption))) <;> (first | (simp; done) | (simp; omega) | omega))) (fun hHeld => ?_)
 refine ty 0 6 hHeld ?_
 refine ty 1 7 hHeld ?_
 refine ty 2 8 hHeld ?_
 refine ty 3 9 hHeld ?_
 refine ty 4 10 hHeld ?_
 refine ty 5 11 hHeld ?_
 refine ty 6 12 hHeld ?_
 refine wpAnyH_ready (rs := [7]) (by kernel_rfl) (by simp) (AllReadyH.cons rfl (fun K hK => ?_) AllReadyH.nil)
 go_simp
 refine (H1.out _ (by (with_reducible repeat' (first | exact Gr.refl _ | refine Gr.set ?_ _ ?_ _ | refine Gr.alloc ?_ | refine Gr.drew ?_ | refine Gr.trans ?_ (by assumption))) <;> (first | (simp; done) | (simp; omega) | omega))).mono ?_; rintro e w1 ⟨rfl, hg1⟩
 (try go_wp2_with fail)
 refine hK.out _ _ (by exact holdK HR.out xt HZ.out (by (with_reducible repeat' (first | exact Gr.refl _ | refine Gr.set ?_ _ ?_ _ | refine Gr.alloc ?_ | refine Gr.drew ?_ | refine Gr.trans ?_ (by assumption))) <;> (first | (simp; done) | (simp; omega) | omega))) (fun hHeldN => ?_)
 clear hHeld hK K
 have hHeld := hHeldN
 clear hHeldN
 refine ty 8 14 hHeld ?_
 refine ty 9 15 hHeld ?_
 refine ty 10 5 hHeld ?_
 refine ty 11 16 hHeld ?_
 refine ty 12 17 hHeld ?_
 refine ty 13 3 hHeld ?_
 refine ty 14 4 hHeld ?_
 refine wpAnyH_done (by kernel_rfl) ?_ _
 have HGW : Hid (Gr w w1) := hHeld.1
 have HR1 := Lib.hid (HR.out.gr HGW.out)
 obtain ⟨c0, c1, c2, c3', f1, f2, lt', _, _, _, _⟩ := HR1.out
 clear hg1 hHeld c3 c3' lt
 by_cases h0 : kw xt = 0
 ·rw [if_pos h0] at H2
  have hd : decide (kw xt = 0) = true := by simpa using h0
  have HV2 : Hid (KV = 0) := HV.out.trans h0
  rw [hd, h0]
  clear h0 hd HV
  go_wp2_with fail
  refine (H2.out _ (HR1.out.set2 true)).mono ?_
  rintro e w2 ⟨⟨sx, rfl⟩, hr, hg⟩
  have HR2 := Lib.hid hr
  have HG2 := Lib.hid hg
  clear hr hg
  go_wp2
  go_ret
  exact ⟨by rw [HV2.out]; rfl, HR2.out, (GB.setNew (GB.ofGr HGW.out) ⟨b, 2, none⟩ _ (Or.inr rfl)).trans HG2.out⟩
 ·rw [if_neg h0] at H2
  have hd : decide (kw xt = 0) = false := by simpa using h0
  rw [hd]
  generalize kw xt = KX at *
  clear h0 hd
  go_wp2_with fail
  refine (H2.out _ HR1.out).mono ?_
  rintro e w2 ⟨⟨sx, rfl⟩, hr, hg⟩
  have HR2 := Lib.hid hr
  have HG2 := Lib.hid hg
  clear hr hg
  go_wp2
  go_ret
  exact ⟨by rw [HV.out]; rfl, HR2.out, (GB.ofGr HGW.out).trans HG2.out⟩
end Go.Proofs.YthaadiclopoamaaGreatDoor
/- def: a reader's step. -/
set_option maxRecDepth 100000
set_option maxHeartbeats 8000000
namespace Go.Proofs.YthaadiclopoamaaGreatDoor
open Go.RowKit Go.Maps
open Lex (Tok valE valB)
open Df (Stp St tk Gd isT passB passS mustS takeB takeV takeS numV cntV optV optS kndV kndS kw stpV stpS)

theorem GB.acc {b : Nat} {w w' : World} {g : Nat} {a0 a1 a2 a3 a4 a5 a6 : Value} (h : GB b w w') (x : AccAt w g a0 a1 a2 a3 a4 a5 a6) (hne : g ≠ b) : AccAt w' g a0 a1 a2 a3 a4 a5 a6 :=
 ⟨h.keep x.lt hne x.c0, h.keep x.lt hne x.c1, h.keep x.lt hne x.c2, h.keep x.lt hne x.c3, h.keep x.lt hne x.c4, h.keep x.lt hne x.c5, h.keep x.lt hne x.c6, fun i hi => h.keepF x.lt hne (x.fz i hi), Nat.lt_of_lt_of_le x.lt h.size⟩
theorem AccAt.setFar {w : World} {g : Nat} {a0 a1 a2 a3 a4 a5 a6 : Value} (x : AccAt w g a0 a1 a2 a3 a4 a5 a6) (p : Addr) (v : Value) (hp : p.block ≠ g) : AccAt (w.setCell p v) g a0 a1 a2 a3 a4 a5 a6 := by
 have key : ∀ o, (w.setCell p v).cell? ⟨g, o, none⟩ = w.cell? ⟨g, o, none⟩ := fun o => World.cell?_setCell_far _ _ _ _ (by simpa using hp)
 have keyF : ∀ o, (w.setCell p v).frozen? ⟨g, o, none⟩ = w.frozen? ⟨g, o, none⟩ := fun o => World.frozen?_setCell _ _ _ _
 exact ⟨(key 0).trans x.c0, (key 1).trans x.c1, (key 2).trans x.c2, (key 3).trans x.c3, (key 4).trans x.c4, (key 5).trans x.c5, (key 6).trans x.c6, fun i hi => (keyF i).trans (x.fz i hi), by simpa using x.lt⟩

theorem AccAt.s0 {w : World} {g : Nat} {a0 a1 a2 a3 a4 a5 a6 : Value} (x : AccAt w g a0 a1 a2 a3 a4 a5 a6) (v : Value) : AccAt (w.setCell ⟨g, 0, none⟩ v) g v a1 a2 a3 a4 a5 a6 := by
 obtain ⟨h0, h1, h2, h3, h4, h5, h6⟩ := x.cells
 have hl := x.lt
 have hf := x.fz
 exact ⟨by simp [go_sem, *], by simp [go_sem, *], by simp [go_sem, *], by simp [go_sem, *], by simp [go_sem, *], by simp [go_sem, *], by simp [go_sem, *], fun i hi => by simp [go_sem, *], by simpa using hl⟩

theorem AccAt.s1 {w : World} {g : Nat} {a0 a1 a2 a3 a4 a5 a6 : Value} (x : AccAt w g a0 a1 a2 a3 a4 a5 a6) (v : Value) : AccAt (w.setCell ⟨g, 1, none⟩ v) g a0 v a2 a3 a4 a5 a6 := by
 obtain ⟨h0, h1, h2, h3, h4, h5, h6⟩ := x.cells
 have hl := x.lt
 have hf := x.fz
 exact ⟨by simp [go_sem, *], by simp [go_sem, *], by simp [go_sem, *], by simp [go_sem, *], by simp [go_sem, *], by simp [go_sem, *], by simp [go_sem, *], fun i hi => by simp [go_sem, *], by simpa using hl⟩

theorem AccAt.s2 {w : World} {g : Nat} {a0 a1 a2 a3 a4 a5 a6 : Value} (x : AccAt w g a0 a1 a2 a3 a4 a5 a6) (v : Value) : AccAt (w.setCell ⟨g, 2, none⟩ v) g a0 a1 v a3 a4 a5 a6 := by
 obtain ⟨h0, h1, h2, h3, h4, h5, h6⟩ := x.cells
 have hl := x.lt
 have hf := x.fz
 exact ⟨by simp [go_sem, *], by simp [go_sem, *], by simp [go_sem, *], by simp [go_sem, *], by simp [go_sem, *], by simp [go_sem, *], by simp [go_sem, *], fun i hi => by simp [go_sem, *], by simpa using hl⟩

theorem AccAt.s3 {w : World} {g : Nat} {a0 a1 a2 a3 a4 a5 a6 : Value} (x : AccAt w g a0 a1 a2 a3 a4 a5 a6) (v : Value) : AccAt (w.setCell ⟨g, 3, none⟩ v) g a0 a1 a2 v a4 a5 a6 := by
 obtain ⟨h0, h1, h2, h3, h4, h5, h6⟩ := x.cells
 have hl := x.lt
 have hf := x.fz
 exact ⟨by simp [go_sem, *], by simp [go_sem, *], by simp [go_sem, *], by simp [go_sem, *], by simp [go_sem, *], by simp [go_sem, *], by simp [go_sem, *], fun i hi => by simp [go_sem, *], by simpa using hl⟩

theorem AccAt.s4 {w : World} {g : Nat} {a0 a1 a2 a3 a4 a5 a6 : Value} (x : AccAt w g a0 a1 a2 a3 a4 a5 a6) (v : Value) : AccAt (w.setCell ⟨g, 4, none⟩ v) g a0 a1 a2 a3 v a5 a6 := by
 obtain ⟨h0, h1, h2, h3, h4, h5, h6⟩ := x.cells
 have hl := x.lt
 have hf := x.fz
 exact ⟨by simp [go_sem, *], by simp [go_sem, *], by simp [go_sem, *], by simp [go_sem, *], by simp [go_sem, *], by simp [go_sem, *], by simp [go_sem, *], fun i hi => by simp [go_sem, *], by simpa using hl⟩

theorem AccAt.s5 {w : World} {g : Nat} {a0 a1 a2 a3 a4 a5 a6 : Value} (x : AccAt w g a0 a1 a2 a3 a4 a5 a6) (v : Value) : AccAt (w.setCell ⟨g, 5, none⟩ v) g a0 a1 a2 a3 a4 v a6 := by
 obtain ⟨h0, h1, h2, h3, h4, h5, h6⟩ := x.cells
 have hl := x.lt
 have hf := x.fz
 exact ⟨by simp [go_sem, *], by simp [go_sem, *], by simp [go_sem, *], by simp [go_sem, *], by simp [go_sem, *], by simp [go_sem, *], by simp [go_sem, *], fun i hi => by simp [go_sem, *], by simpa using hl⟩

theorem AccAt.s6 {w : World} {g : Nat} {a0 a1 a2 a3 a4 a5 a6 : Value} (x : AccAt w g a0 a1 a2 a3 a4 a5 a6) (v : Value) : AccAt (w.setCell ⟨g, 6, none⟩ v) g a0 a1 a2 a3 a4 a5 v := by
 obtain ⟨h0, h1, h2, h3, h4, h5, h6⟩ := x.cells
 have hl := x.lt
 have hf := x.fz
 exact ⟨by simp [go_sem, *], by simp [go_sem, *], by simp [go_sem, *], by simp [go_sem, *], by simp [go_sem, *], by simp [go_sem, *], by simp [go_sem, *], fun i hi => by simp [go_sem, *], by simpa using hl⟩

theorem dStep_any (b m : Nat) (ad : Option Addr) (T : List Tok) (cap : Nat) (q : St) (w : World) (h : Rd w b m ad T cap q) (hT : Gd T) (hi : q.i < T.length) (hn : T.length <= 5000) :
  Calls Tryz.prog 161 #[.pointer (some ⟨b, 0, none⟩)] w fun e w' => e = .returned (.agg #[.int .i64 (stpV T q).k, .string (stpV T q).a, .int .i64 (stpV T q).n, .int .i64 (stpV T q).o, .string (stpV T q).u, .int .i64 (stpV T q).y, .int .i64 (stpV T q).v]) /\ Rd w' b m ad T cap (stpS T q) /\ GB b w w' := by
 have HP : Hid (∀ w', Rd w' b m ad T cap q -> Calls Tryz.prog 160 #[.pointer (some ⟨b, 0, none⟩), .int .i64 1, .string ⟨#[97, 115, 107]⟩] w' fun e w2 => e = .returned (.bool (passB T q 1 Df.wAsk)) /\ Rd w2 b m ad T cap (passS T q 1 Df.wAsk) /\ GB b w' w2) := fun w' h' => dPass_any b m ad T cap q 1 Df.wAsk w' h' hi hn
 have HR0 : Hid (Rd ((w.alloc (.cells #[.int .i64 0, .string ⟨#[]⟩, .int .i64 0, .int .i64 0, .string ⟨#[]⟩, .int .i64 0, .int .i64 0] 94)).alloc (.cells #[.int .i64 0, .string ⟨#[]⟩, .int .i64 0, .int .i64 0, .string ⟨#[]⟩, .int .i64 0, .int .i64 0] 94)) b m ad T cap q) := (h.gr (Gr.refl _).alloc).gr (Gr.refl _).alloc
 have HRT : Hid (Rd w b m ad T cap q) := h
 have HG0 : Hid (GB b w ((w.alloc (.cells #[.int .i64 0, .string ⟨#[]⟩, .int .i64 0, .int .i64 0, .string ⟨#[]⟩, .int .i64 0, .int .i64 0] 94)).alloc (.cells #[.int .i64 0, .string ⟨#[]⟩, .int .i64 0, .int .i64 0, .string ⟨#[]⟩, .int .i64 0, .int .i64 0] 94))) := ((GB.refl b w).alloc).alloc
 have HA0 : Hid (AccAt ((w.alloc (.cells #[.int .i64 0, .string ⟨#[]⟩, .int .i64 0, .int .i64 0, .string ⟨#[]⟩, .int .i64 0, .int .i64 0] 94)).alloc (.cells #[.int .i64 0, .string ⟨#[]⟩, .int .i64 0, .int .i64 0, .string ⟨#[]⟩, .int .i64 0, .int .i64 0] 94)) w.heap.size (.int .i64 0) (.string ⟨#[]⟩) (.int .i64 0) (.int .i64 0) (.string ⟨#[]⟩) (.int .i64 0) (.int .i64 0)) := (AccAt.new w (.int .i64 0) (.string ⟨#[]⟩) (.int .i64 0) (.int .i64 0) (.string ⟨#[]⟩) (.int .i64 0) (.int .i64 0) 94 _ rfl).gr (Gr.refl _).alloc
 have HB0 : Hid (AccAt ((w.alloc (.cells #[.int .i64 0, .string ⟨#[]⟩, .int .i64 0, .int .i64 0, .string ⟨#[]⟩, .int .i64 0, .int .i64 0] 94)).alloc (.cells #[.int .i64 0, .string ⟨#[]⟩, .int .i64 0, .int .i64 0, .string ⟨#[]⟩, .int .i64 0, .int .i64 0] 94)) (w.heap.size + 1) (.int .i64 0) (.string ⟨#[]⟩) (.int .i64 0) (.int .i64 0) (.string ⟨#[]⟩) (.int .i64 0) (.int .i64 0)) := AccAt.new _ (.int .i64 0) (.string ⟨#[]⟩) (.int .i64 0) (.int .i64 0) (.string ⟨#[]⟩) (.int .i64 0) (.int .i64 0) 94 _ (by simp)
 have HNE : Hid (w.heap.size ≠ b) := by have := h.lt; show _ ≠ _; omega
 have HNB : Hid (w.heap.size + 1 ≠ b) := by have := h.lt; show _ ≠ _; omega
 have hp := pass_lt hT 1 Df.wAsk (by decide) hi
 have hpo : ¬ passB T q 1 Df.wAsk = true -> passS T q 1 Df.wAsk = q := fun hf => by unfold Df.passS; rw [if_neg hf]
 have HV : Hid (stpV T q = if passB T q 1 Df.wAsk = true then
  ⟨0, ⟨#[]⟩, 0, cntV T (passS T q 1 Df.wAsk), takeV T (takeS T (passS T q 1 Df.wAsk) 2) 1, 0, optV T (takeS T (takeS T (passS T q 1 Df.wAsk) 2) 1) Df.wWait 20⟩
 else
  ⟨kndV T q, takeV T (kndS T q) 1, numV T (takeS T (kndS T q) 1), 0, ⟨#[]⟩, optV T (takeS T (takeS T (kndS T q) 1) 2) Df.wTries 1, 0⟩) := rfl
 have HS : Hid (stpS T q = mustS T (if passB T q 1 Df.wAsk = true then optS T (takeS T (takeS T (passS T q 1 Df.wAsk) 2) 1) Df.wWait else optS T (takeS T (takeS T (kndS T q) 1) 2) Df.wTries) 3 Df.gSemi) := rfl
 by_cases hb : passB T q 1 Df.wAsk = true
 ·rw [if_pos hb] at HV HS
  rw [hb] at HP
  generalize passS T q 1 Df.wAsk = q1 at *
  have l2 := take_lt hT 2 (by decide) hp
  have l3 := take_lt hT 1 (by decide) l2
  have l4 := opt_lt hT Df.wWait l3
  have K1 : Hid (∀ w', Rd w' b m ad T cap q1 -> Calls Tryz.prog 174 #[.pointer (some ⟨b, 0, none⟩)] w' fun e w2 => e = .returned (.int .i64 (cntV T q1)) /\ Rd w2 b m ad T cap (takeS T q1 2) /\ GB b w' w2) := fun w' h' => dCount_any b m ad T cap q1 w' h' hT hp hn
  generalize takeS T q1 2 = q2 at *
  have K2 : Hid (∀ w', Rd w' b m ad T cap q2 -> Calls Tryz.prog 159 #[.pointer (some ⟨b, 0, none⟩), .int .i64 1] w' fun e w2 => e = .returned (.string (takeV T q2 1)) /\ Rd w2 b m ad T cap (takeS T q2 1) /\ GB b w' w2) := fun w' h' => dTake_any b m ad T cap q2 1 w' h' hT l2 hn
  generalize takeS T q2 1 = q3 at *
  have K3 : Hid (∀ w', Rd w' b m ad T cap q3 -> Calls Tryz.prog 175 #[.pointer (some ⟨b, 0, none⟩), .string ⟨#[119, 97, 105, 116]⟩, .int .i64 20] w' fun e w2 => e = .returned (.int .i64 (optV T q3 Df.wWait 20)) /\ Rd w2 b m ad T cap (optS T q3 Df.wWait) /\ GB b w' w2) := fun w' h' => dOption_any b m ad T cap q3 Df.wWait 20 w' h' hT l3 hn
  generalize optS T q3 Df.wWait = q4 at *
  have K4 : Hid (∀ w', Rd w' b m ad T cap q4 -> Calls Tryz.prog 158 #[.pointer (some ⟨b, 0, none⟩), .int .i64 3, .string ⟨#[59]⟩] w' fun e w2 => e = .returned (.tuple #[]) /\ Rd w2 b m ad T cap (mustS T q4 3 Df.gSemi) /\ GB b w' w2) := fun w' h' => dMust_any b m ad T cap q4 3 Df.gSemi w' h' l4 hn
  generalize mustS T q4 3 Df.gSemi = q5 at *
  generalize cntV T q1 = V1 at *
  generalize takeV T q2 1 = V2 at *
  generalize optV T q3 Df.wWait 20 = V3 at *
  generalize stpV T q = SV at *
  generalize stpS T q = SS at *
  obtain ⟨s0, s1, s2, s3, s4, s5, s6⟩ := SV
  simp only
  clear hi hn hT h hp l2 l3 l4 hb hpo
  go_enter Tryz.func161, Tryz.ntmps161
  go_wp2_with fail
  refine (HP.out _ HR0.out).mono ?_
  rintro e w1 ⟨rfl, hr, hg⟩
  have HR1 := Lib.hid hr
  have HG1 := Lib.hid (HG0.out.trans hg)
  have HA1 := Lib.hid (hg.acc HA0.out HNE.out)
  have HB1 := Lib.hid (hg.acc HB0.out HNB.out)
  clear hr hg
  go_wp2_with fail
  refine (K1.out _ HR1.out).mono ?_
  rintro e w2 ⟨rfl, hr, hg⟩
  have HA2a := hg.acc HA1.out HNE.out
  have HB2a := hg.acc HB1.out HNB.out
  have HR2 := Lib.hid (hr.setTop HRT.out ⟨w.heap.size + 1, 3, none⟩ (.int .i64 V1) (by simp))
  have HG2 := Lib.hid (GB.setNew (HG1.out.trans hg) ⟨w.heap.size + 1, 3, none⟩ (.int .i64 V1) (Or.inl (by simp)))
  have HB2 := Lib.hid (HB2a.s3 (.int .i64 V1))
  have HA2 := Lib.hid (HA2a.setFar ⟨w.heap.size + 1, 3, none⟩ (.int .i64 V1) (by simp))
  obtain ⟨b0, b1, b2, b3, b4, b5, b6⟩ := HB2a.cells
  obtain ⟨f0, f1, f2, f3, f4, f5, f6⟩ := HB2a.frozens
  have bl := HB2a.lt
  clear hr hg HA2a HB2a
  go_wp2_with fail
  refine (K2.out _ HR2.out).mono ?_
  rintro e w3 ⟨rfl, hr, hg⟩
  have HA3a := hg.acc HA2.out HNE.out
  have HB3a := hg.acc HB2.out HNB.out
  have HR3 := Lib.hid (hr.setTop HRT.out ⟨w.heap.size + 1, 4, none⟩ (.string V2) (by simp))
  have HG3 := Lib.hid (GB.setNew (HG2.out.trans hg) ⟨w.heap.size + 1, 4, none⟩ (.string V2) (Or.inl (by simp)))
  have HB3 := Lib.hid (HB3a.s4 (.string V2))
  have HA3 := Lib.hid (HA3a.setFar ⟨w.heap.size + 1, 4, none⟩ (.string V2) (by simp))
  obtain ⟨b0, b1, b2, b3, b4, b5, b6⟩ := HB3a.cells
  obtain ⟨f0, f1, f2, f3, f4, f5, f6⟩ := HB3a.frozens
  have bl := HB3a.lt
  clear hr hg HA3a HB3a
  go_wp2_with fail
  refine (K3.out _ HR3.out).mono ?_
  rintro e w4 ⟨rfl, hr, hg⟩
  have HA4a := hg.acc HA3.out HNE.out
  have HB4a := hg.acc HB3.out HNB.out
  have HR4 := Lib.hid (hr.setTop HRT.out ⟨w.heap.size + 1, 6, none⟩ (.int .i64 V3) (by simp))
  have HG4 := Lib.hid (GB.setNew (HG3.out.trans hg) ⟨w.heap.size + 1, 6, none⟩ (.int .i64 V3) (Or.inl (by simp)))
  have HB4 := Lib.hid (HB4a.s6 (.int .i64 V3))
  have HA4 := Lib.hid (HA4a.setFar ⟨w.heap.size + 1, 6, none⟩ (.int .i64 V3) (by simp))
  obtain ⟨b0, b1, b2, b3, b4, b5, b6⟩ := HB4a.cells
  obtain ⟨f0, f1, f2, f3, f4, f5, f6⟩ := HB4a.frozens
  have bl := HB4a.lt
  clear hr hg HA4a HB4a
  go_wp2_with fail
  refine (K4.out _ HR4.out).mono ?_
  rintro e w5 ⟨rfl, hr, hg⟩
  have HA5a := hg.acc HA4.out HNE.out
  have HB5a := hg.acc HB4.out HNB.out
  have HR5 := Lib.hid hr
  have HG5 := Lib.hid (HG4.out.trans hg)
  obtain ⟨b0, b1, b2, b3, b4, b5, b6⟩ := HB5a.cells
  obtain ⟨a0, a1, a2, a3, a4, a5, a6⟩ := HA5a.cells
  obtain ⟨f0, f1, f2, f3, f4, f5, f6⟩ := HA5a.frozens
  have bl := HB5a.lt
  have al := HA5a.lt
  clear hr hg HA5a HB5a
  go_wp2
  refine bodyPost_ret (v := .agg #[.int .i64 0, .string ⟨#[]⟩, .int .i64 0, .int .i64 V1, .string V2, .int .i64 0, .int .i64 V3]) (by simp [results, Tryz.results161, go_sem, *]) rfl ⟨?_, ?_, ?_⟩
  ·have e0 := HV.out
   simp only [Df.Stp.mk.injEq] at e0
   obtain ⟨e0, e1, e2, e3, e4, e5, e6⟩ := e0
   rw [e0, e1, e2, e3, e4, e5, e6]
  ·rw [HS.out]
   repeat (first | with_reducible exact HR5.out | with_reducible refine Rd.setTop ?_ HRT.out _ _ (by simp))
  ·repeat (first | with_reducible exact HG5.out | with_reducible refine GB.setNew ?_ _ _ (Or.inl (by simp)))
 ·rw [if_neg hb] at HV HS
  rw [hpo hb, show passB T q 1 Df.wAsk = false by simpa using hb] at HP
  have l1 := knd_lt hT hi
  have K1 : Hid (∀ w', Rd w' b m ad T cap q -> Calls Tryz.prog 176 #[.pointer (some ⟨b, 0, none⟩)] w' fun e w2 => e = .returned (.int .i64 (kndV T q)) /\ Rd w2 b m ad T cap (kndS T q) /\ GB b w' w2) := fun w' h' => dKind_any b m ad T cap q w' h' hT hi hn
  generalize kndS T q = q2 at *
  have l2 := take_lt hT 1 (by decide) l1
  have K2 : Hid (∀ w', Rd w' b m ad T cap q2 -> Calls Tryz.prog 159 #[.pointer (some ⟨b, 0, none⟩), .int .i64 1] w' fun e w2 => e = .returned (.string (takeV T q2 1)) /\ Rd w2 b m ad T cap (takeS T q2 1) /\ GB b w' w2) := fun w' h' => dTake_any b m ad T cap q2 1 w' h' hT l1 hn
  generalize takeS T q2 1 = q3 at *
  have l3 := take_lt hT 2 (by decide) l2
  have K3 : Hid (∀ w', Rd w' b m ad T cap q3 -> Calls Tryz.prog 177 #[.pointer (some ⟨b, 0, none⟩)] w' fun e w2 => e = .returned (.int .i64 (numV T q3)) /\ Rd w2 b m ad T cap (takeS T q3 2) /\ GB b w' w2) := fun w' h' => dNumber_any b m ad T cap q3 w' h' hT l2 hn
  generalize takeS T q3 2 = q4 at *
  have l4 := opt_lt hT Df.wTries l3
  have K4 : Hid (∀ w', Rd w' b m ad T cap q4 -> Calls Tryz.prog 175 #[.pointer (some ⟨b, 0, none⟩), .string ⟨#[116, 114, 105, 101, 115]⟩, .int .i64 1] w' fun e w2 => e = .returned (.int .i64 (optV T q4 Df.wTries 1)) /\ Rd w2 b m ad T cap (optS T q4 Df.wTries) /\ GB b w' w2) := fun w' h' => dOption_any b m ad T cap q4 Df.wTries 1 w' h' hT l3 hn
  generalize optS T q4 Df.wTries = q5 at *
  have K5 : Hid (∀ w', Rd w' b m ad T cap q5 -> Calls Tryz.prog 158 #[.pointer (some ⟨b, 0, none⟩), .int .i64 3, .string ⟨#[59]⟩] w' fun e w2 => e = .returned (.tuple #[]) /\ Rd w2 b m ad T cap (mustS T q5 3 Df.gSemi) /\ GB b w' w2) := fun w' h' => dMust_any b m ad T cap q5 3 Df.gSemi w' h' l4 hn
  generalize mustS T q5 3 Df.gSemi = q6 at *
  generalize kndV T q = V1 at *
  generalize takeV T q2 1 = V2 at *
  generalize numV T q3 = V3 at *
  generalize optV T q4 Df.wTries 1 = V4 at *
  generalize stpV T q = SV at *
  generalize stpS T q = SS at *
  obtain ⟨s0, s1, s2, s3, s4, s5, s6⟩ := SV
  simp only
  clear hi hn hT h hp l1 l2 l3 l4 hb hpo
  go_enter Tryz.func161, Tryz.ntmps161
  go_wp2_with fail
  refine (HP.out _ HR0.out).mono ?_
  rintro e w1 ⟨rfl, hr, hg⟩
  have HR1 := Lib.hid hr
  have HG1 := Lib.hid (HG0.out.trans hg)
  have HA1 := Lib.hid (hg.acc HA0.out HNE.out)
  have HB1 := Lib.hid (hg.acc HB0.out HNB.out)
  clear hr hg
  go_wp2_with fail
  refine (K1.out _ HR1.out).mono ?_
  rintro e w2 ⟨rfl, hr, hg⟩
  have HA2a := hg.acc HA1.out HNE.out
  have HB2a := hg.acc HB1.out HNB.out
  have HR2 := Lib.hid (hr.setTop HRT.out ⟨w.heap.size + 1, 0, none⟩ (.int .i64 V1) (by simp))
  have HG2 := Lib.hid (GB.setNew (HG1.out.trans hg) ⟨w.heap.size + 1, 0, none⟩ (.int .i64 V1) (Or.inl (by simp)))
  have HB2 := Lib.hid (HB2a.s0 (.int .i64 V1))
  have HA2 := Lib.hid (HA2a.setFar ⟨w.heap.size + 1, 0, none⟩ (.int .i64 V1) (by simp))
  obtain ⟨b0, b1, b2, b3, b4, b5, b6⟩ := HB2a.cells
  obtain ⟨f0, f1, f2, f3, f4, f5, f6⟩ := HB2a.frozens
  have bl := HB2a.lt
  clear hr hg HA2a HB2a
  go_wp2_with fail
  refine (K2.out _ HR2.out).mono ?_
  rintro e w3 ⟨rfl, hr, hg⟩
  have HA3a := hg.acc HA2.out HNE.out
  have HB3a := hg.acc HB2.out HNB.out
  have HR3 := Lib.hid (hr.setTop HRT.out ⟨w.heap.size + 1, 1, none⟩ (.string V2) (by simp))
  have HG3 := Lib.hid (GB.setNew (HG2.out.trans hg) ⟨w.heap.size + 1, 1, none⟩ (.string V2) (Or.inl (by simp)))
  have HB3 := Lib.hid (HB3a.s1 (.string V2))
  have HA3 := Lib.hid (HA3a.setFar ⟨w.heap.size + 1, 1, none⟩ (.string V2) (by simp))
  obtain ⟨b0, b1, b2, b3, b4, b5, b6⟩ := HB3a.cells
  obtain ⟨f0, f1, f2, f3, f4, f5, f6⟩ := HB3a.frozens
  have bl := HB3a.lt
  clear hr hg HA3a HB3a
  go_wp2_with fail
  refine (K3.out _ HR3.out).mono ?_
  rintro e w4 ⟨rfl, hr, hg⟩
  have HA4a := hg.acc HA3.out HNE.out
  have HB4a := hg.acc HB3.out HNB.out
  have HR4 := Lib.hid (hr.setTop HRT.out ⟨w.heap.size + 1, 2, none⟩ (.int .i64 V3) (by simp))
  have HG4 := Lib.hid (GB.setNew (HG3.out.trans hg) ⟨w.heap.size + 1, 2, none⟩ (.int .i64 V3) (Or.inl (by simp)))
  have HB4 := Lib.hid (HB4a.s2 (.int .i64 V3))
  have HA4 := Lib.hid (HA4a.setFar ⟨w.heap.size + 1, 2, none⟩ (.int .i64 V3) (by simp))
  obtain ⟨b0, b1, b2, b3, b4, b5, b6⟩ := HB4a.cells
  obtain ⟨f0, f1, f2, f3, f4, f5, f6⟩ := HB4a.frozens
  have bl := HB4a.lt
  clear hr hg HA4a HB4a
  go_wp2_with fail
  refine (K4.out _ HR4.out).mono ?_
  rintro e w5 ⟨rfl, hr, hg⟩
  have HA5a := hg.acc HA4.out HNE.out
  have HB5a := hg.acc HB4.out HNB.out
  have HR5 := Lib.hid (hr.setTop HRT.out ⟨w.heap.size + 1, 5, none⟩ (.int .i64 V4) (by simp))
  have HG5 := Lib.hid (GB.setNew (HG4.out.trans hg) ⟨w.heap.size + 1, 5, none⟩ (.int .i64 V4) (Or.inl (by simp)))
  have HB5 := Lib.hid (HB5a.s5 (.int .i64 V4))
  have HA5 := Lib.hid (HA5a.setFar ⟨w.heap.size + 1, 5, none⟩ (.int .i64 V4) (by simp))
  obtain ⟨b0, b1, b2, b3, b4, b5, b6⟩ := HB5a.cells
  obtain ⟨f0, f1, f2, f3, f4, f5, f6⟩ := HB5a.frozens
  have bl := HB5a.lt
  clear hr hg HA5a HB5a
  go_wp2_with fail
  refine (K5.out _ HR5.out).mono ?_
  rintro e w6 ⟨rfl, hr, hg⟩
  have HA6a := hg.acc HA5.out HNE.out
  have HB6a := hg.acc HB5.out HNB.out
  have HR6 := Lib.hid hr
  have HG6 := Lib.hid (HG5.out.trans hg)
  obtain ⟨b0, b1, b2, b3, b4, b5, b6⟩ := HB6a.cells
  obtain ⟨a0, a1, a2, a3, a4, a5, a6⟩ := HA6a.cells
  obtain ⟨f0, f1, f2, f3, f4, f5, f6⟩ := HA6a.frozens
  have bl := HB6a.lt
  have al := HA6a.lt
  clear hr hg HA6a HB6a
  go_wp2
  refine bodyPost_ret (v := .agg #[.int .i64 V1, .string V2, .int .i64 V3, .int .i64 0, .string ⟨#[]⟩, .int .i64 V4, .int .i64 0]) (by simp [results, Tryz.results161, go_sem, *]) rfl ⟨?_, ?_, ?_⟩
  ·have e0 := HV.out
   simp only [Df.Stp.mk.injEq] at e0
   obtain ⟨e0, e1, e2, e3, e4, e5, e6⟩ := e0
   rw [e0, e1, e2, e3, e4, e5, e6]
  ·rw [HS.out]
   repeat (first | with_reducible exact HR6.out | with_reducible refine Rd.setTop ?_ HRT.out _ _ (by simp))
  ·repeat (first | with_reducible exact HG6.out | with_reducible refine GB.setNew ?_ _ _ (Or.inl (by simp)))
end Go.Proofs.YthaadiclopoamaaGreatDoor
