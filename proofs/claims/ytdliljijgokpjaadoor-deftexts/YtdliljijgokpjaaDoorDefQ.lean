/- def: the methods of a reader. -/
import Derived.Test.YtdliljijgokpjaaDoorDefP
import Derived.Test.YtdliljijgokpjaaDoorLexE
import Derived.Test.YtdliljijgokpjaaDoorRegH
import Derived.Deep.DeepCutAuto
namespace Go.Proofs.YtdliljijgokpjaaDoor
open Go.RowKit Go.Maps
open Lex (Tok valE valB)
open Df (Stp St tk Gd isT passB passS mustS takeB takeV takeS numV cntV optV optS kndV kndS kw)

theorem take_lt {T : List Tok} (hT : Gd T) {q : St} (k : Int) (h0 : k ≠ 0) (h : q.i < T.length) : (takeS T q k).i < T.length := by
  unfold Df.takeS
  by_cases hb : takeB T q k = true
  · rw [if_pos hb]
    unfold Df.takeB at hb
    simp only [Bool.and_eq_true, decide_eq_true_eq] at hb
    exact hT.next (by rw [hb.2]; exact h0)
  · rw [if_neg hb]; exact h
theorem pass_lt {T : List Tok} (hT : Gd T) {q : St} (k : Int) (s : ByteArray) (h0 : k ≠ 0) (h : q.i < T.length) : (passS T q k s).i < T.length := by
  unfold Df.passS
  by_cases hb : passB T q k s = true
  · rw [if_pos hb]
    unfold Df.passB at hb
    simp only [Bool.and_eq_true] at hb
    exact hT.next (by rw [((Df.isT_iff _ _ _).1 hb.2).1]; exact h0)
  · rw [if_neg hb]; exact h
theorem must_lt {T : List Tok} (hT : Gd T) {q : St} (k : Int) (s : ByteArray) (h0 : k ≠ 0) (h : q.i < T.length) : (mustS T q k s).i < T.length := by
  unfold Df.mustS
  by_cases hb : passB T q k s = true
  · rw [if_pos hb]
    unfold Df.passB at hb
    simp only [Bool.and_eq_true] at hb
    exact hT.next (by rw [((Df.isT_iff _ _ _).1 hb.2).1]; exact h0)
  · rw [if_neg hb]; exact h
theorem opt_lt {T : List Tok} (hT : Gd T) {q : St} (wd : ByteArray) (h : q.i < T.length) : (optS T q wd).i < T.length := by
  unfold Df.optS
  by_cases hb : passB T q 1 wd = true
  · rw [if_pos hb]; exact take_lt hT 2 (by decide) (pass_lt hT 1 wd (by decide) h)
  · rw [if_neg hb]; exact h
theorem knd_lt {T : List Tok} (hT : Gd T) {q : St} (h : q.i < T.length) : (kndS T q).i < T.length := by
  unfold Df.kndS
  refine take_lt hT 1 (by decide) ?_
  split
  · exact h
  · exact h
theorem takeV_size {T : List Tok} (hT : Gd T) (q : St) (k : Int) : (takeV T q k).size ≤ 16 := by
  unfold Df.takeV
  split
  · exact hT.size q.i
  · decide

set_option maxHeartbeats 2000000 in
set_option maxRecDepth 100000 in
theorem dNumber_any (b m : Nat) (ad : Option Addr) (T : List Tok) (cap : Nat) (q : St) (w : World) (h : Rd w b m ad T cap q) (hT : Gd T) (hi : q.i < T.length) (hn : T.length ≤ 5000) :
    Calls Tryd.prog 79 #[.pointer (some ⟨b, 0, none⟩)] w fun e w' => e = .returned (.int .i64 (numV T q)) ∧ Rd w' b m ad T cap (takeS T q 2) ∧ GB b w w' := by
  have H1 : Hid (Calls Tryd.prog 55 #[.pointer (some ⟨b, 0, none⟩), .int .i64 2] w fun e w' => e = .returned (.string (takeV T q 2)) ∧ Rd w' b m ad T cap (takeS T q 2) ∧ GB b w w') := dTake_any b m ad T cap q 2 w h hT hi hn
  have H2 : Hid (∀ w', Calls Tryd.prog 97 #[.agg #[.int .i64 2, .string (takeV T q 2), .int .i64 0]] w' fun e w2 => e = .returned (.tuple #[.int .i64 (valE 2 (takeV T q 2)), .bool (valB 2 (takeV T q 2))]) ∧ Gr w' w2) := fun w' => value_any 2 (takeV T q 2) 0 w' (by have := takeV_size hT q 2; omega)
  have HN : Hid (numV T q = valE 2 (takeV T q 2)) := rfl
  generalize numV T q = NV at *
  generalize takeV T q 2 = TV at *
  generalize takeS T q 2 = TS at *
  clear hi hn hT h
  go_enter Tryd.func79, Tryd.ntmps79
  go_wp2_with fail
  refine H1.out.mono ?_
  rintro e w1 ⟨rfl, hr, hg⟩
  have HR1 := Lib.hid hr
  have HG1 := Lib.hid hg
  clear hr hg
  go_wp2_with fail
  refine (H2.out _).mono ?_
  rintro e w2 ⟨rfl, hg⟩
  have HG2 := Lib.hid hg
  clear hg
  go_wp2
  go_ret
  exact ⟨by rw [HN.out]; rfl, HR1.out.gr HG2.out, HG1.out.gr HG2.out⟩

theorem tok_text (k p : Int) (t : ByteArray) (W : World) : (Instr.field 66 (.agg #[.int .i64 k, .string t, .int .i64 p]) 1).run Tryd.prog W = .ok (.string t) W := by kernel_rfl

set_option maxHeartbeats 2000000 in
set_option maxRecDepth 100000 in
theorem dCount_any (b m : Nat) (ad : Option Addr) (T : List Tok) (cap : Nat) (q : St) (w : World) (h : Rd w b m ad T cap q) (hT : Gd T) (hi : q.i < T.length) (hn : T.length ≤ 5000) :
    Calls Tryd.prog 76 #[.pointer (some ⟨b, 0, none⟩)] w fun e w' => e = .returned (.int .i64 (cntV T q)) ∧ Rd w' b m ad T cap (takeS T q 2) ∧ GB b w w' := by
  have H1 : Hid (Calls Tryd.prog 36 #[.pointer (some ⟨b, 0, none⟩)] w fun e w2 => e = .returned (.agg #[.int .i64 (tk T q.i).k, .string (tk T q.i).t, .int .i64 (tk T q.i).p]) ∧ Gr w w2) := dHere_any b m ad T cap q w h hi
  have H2 : Hid (∀ w', Gr w w' → Calls Tryd.prog 79 #[.pointer (some ⟨b, 0, none⟩)] w' fun e w2 => e = .returned (.int .i64 (numV T q)) ∧ Rd w2 b m ad T cap (takeS T q 2) ∧ GB b w' w2) := fun w' g => dNumber_any b m ad T cap q w' (h.gr g) hT hi hn
  have HN : Hid (cntV T q = if 9 < (tk T q.i).t.size then -1 else numV T q) := rfl
  have hsz := hT.size q.i
  generalize cntV T q = CV at *
  generalize numV T q = NV at *
  generalize takeS T q 2 = TS at *
  generalize tk T q.i = x at *
  obtain ⟨xk, xt, xp⟩ := x
  simp only at *
  have hft := tok_text xk xp xt
  clear hi hn hT h
  by_cases h9 : 9 < xt.size
  · have h9i : (9 : Int) < (xt.size : Int) := by omega
    rw [if_pos h9] at HN
    go_enter Tryd.func76, Tryd.ntmps76
    go_wp2_with fail
    refine H1.out.mono ?_
    rintro e w1 ⟨rfl, hg⟩
    have HG1 := Lib.hid hg
    clear hg
    go_wp2_with fail
    refine (H2.out _ HG1.out).mono ?_
    rintro e w2 ⟨rfl, hr, hg⟩
    have HR2 := Lib.hid hr
    have HG2 := Lib.hid hg
    clear hr hg
    go_wp2
    go_ret
    exact ⟨by rw [HN.out]; rfl, HR2.out, (GB.ofGr HG1.out).trans HG2.out⟩
  · have h9i : ¬ (9 : Int) < (xt.size : Int) := by omega
    rw [if_neg h9] at HN
    go_enter Tryd.func76, Tryd.ntmps76
    go_wp2_with fail
    refine H1.out.mono ?_
    rintro e w1 ⟨rfl, hg⟩
    have HG1 := Lib.hid hg
    clear hg
    go_wp2_with fail
    refine (H2.out _ HG1.out).mono ?_
    rintro e w2 ⟨rfl, hr, hg⟩
    have HR2 := Lib.hid hr
    have HG2 := Lib.hid hg
    clear hr hg
    go_wp2
    go_ret
    exact ⟨by rw [HN.out]; rfl, HR2.out, (GB.ofGr HG1.out).trans HG2.out⟩

set_option maxHeartbeats 2000000 in
set_option maxRecDepth 100000 in
theorem dOption_any (b m : Nat) (ad : Option Addr) (T : List Tok) (cap : Nat) (q : St) (wd : ByteArray) (n : Int) (w : World) (h : Rd w b m ad T cap q) (hT : Gd T) (hi : q.i < T.length) (hn : T.length ≤ 5000) :
    Calls Tryd.prog 77 #[.pointer (some ⟨b, 0, none⟩), .string wd, .int .i64 n] w fun e w' => e = .returned (.int .i64 (optV T q wd n)) ∧ Rd w' b m ad T cap (optS T q wd) ∧ GB b w w' := by
  have H1 : Hid (Calls Tryd.prog 56 #[.pointer (some ⟨b, 0, none⟩), .int .i64 1, .string wd] w fun e w' => e = .returned (.bool (passB T q 1 wd)) ∧ Rd w' b m ad T cap (passS T q 1 wd) ∧ GB b w w') := dPass_any b m ad T cap q 1 wd w h hi hn
  have H2 : Hid (∀ w', Rd w' b m ad T cap (passS T q 1 wd) → Calls Tryd.prog 76 #[.pointer (some ⟨b, 0, none⟩)] w' fun e w2 => e = .returned (.int .i64 (cntV T (passS T q 1 wd))) ∧ Rd w2 b m ad T cap (takeS T (passS T q 1 wd) 2) ∧ GB b w' w2) := fun w' g => dCount_any b m ad T cap _ w' g hT (pass_lt hT 1 wd (by decide) hi) hn
  have HV : Hid (optV T q wd n = if passB T q 1 wd = true then cntV T (passS T q 1 wd) else n) := rfl
  have HS : Hid (optS T q wd = if passB T q 1 wd = true then takeS T (passS T q 1 wd) 2 else q) := rfl
  have HS2 : Hid (passS T q 1 wd = if passB T q 1 wd = true then ⟨q.i + 1, q.s⟩ else q) := rfl
  generalize optV T q wd n = OV at *
  generalize optS T q wd = OS at *
  generalize cntV T (passS T q 1 wd) = CV at *
  generalize takeS T (passS T q 1 wd) 2 = TS at *
  generalize passS T q 1 wd = PS at *
  generalize passB T q 1 wd = PB at *
  clear hi hn hT h
  cases PB with
  | true =>
    rw [if_pos rfl] at HV HS
    go_enter Tryd.func77, Tryd.ntmps77
    go_wp2_with fail
    refine H1.out.mono ?_
    rintro e w1 ⟨rfl, hr, hg⟩
    have HR1 := Lib.hid hr
    have HG1 := Lib.hid hg
    clear hr hg
    go_wp2_with fail
    refine (H2.out _ HR1.out).mono ?_
    rintro e w2 ⟨rfl, hr, hg⟩
    have HR2 := Lib.hid hr
    have HG2 := Lib.hid hg
    clear hr hg
    go_wp2
    go_ret
    exact ⟨by rw [HV.out]; rfl, by rw [HS.out]; exact HR2.out, HG1.out.trans HG2.out⟩
  | false =>
    rw [if_neg (by decide)] at HV HS HS2
    go_enter Tryd.func77, Tryd.ntmps77
    go_wp2_with fail
    refine H1.out.mono ?_
    rintro e w1 ⟨rfl, hr, hg⟩
    have HR1 := Lib.hid hr
    have HG1 := Lib.hid hg
    clear hr hg
    go_wp2
    go_ret
    exact ⟨by rw [HV.out]; rfl, by rw [HS.out, ← HS2.out]; exact HR1.out, HG1.out⟩

theorem lit_inj {a b : Int} {ps qs : List MemPlace} (h : ((DataW.lit (.int .i64 a) : DataW Unit), ps) = (.lit (.int .i64 b), qs)) : a = b := by cases h; rfl
theorem look_any {w : World} {m : Nat} (h : MapK w m) (t : ByteArray) (ht : t.size ≤ 9223372036854775807) : (Instr.lookup 60 (.map (some m)) (.string t) true).run Tryd.prog w = .ok (.tuple #[.int .i64 (kw t), .bool (decide (kw t ≠ 0))]) w := by
  obtain ⟨v, ps, hrun, hv⟩ := World.ownsMap.look_ok h strLaw Tryd.underlying60 (zeroInt w) (plainElem_int Tryd.underlying3 (by decide)) (key_any t ht)
  obtain ⟨c, rfl, hc, _⟩ := plainElem_int_inv Tryd.underlying3 hv
  rw [kD_at] at hc
  rw [hrun, kD_has]
  have : kw t = c := by
    by_cases h0 : kw t = 0
    · rw [if_pos h0] at hc
      rw [h0]; exact lit_inj hc
    · rw [if_neg h0] at hc
      exact lit_inj hc
  rw [this]
theorem holdK {w w' : World} {b m : Nat} {ad : Option Addr} {T : List Tok} {cap : Nat} {q : St} (h : Rd w b m ad T cap q) (t : ByteArray) (ht : t.size ≤ 16) (g : Gr w w') :
    Gr w w' ∧ w'.cell? ⟨b, 3, none⟩ = some (.map (some m)) ∧ (Instr.lookup 60 (.map (some m)) (.string t) true).run Tryd.prog w' = .ok (.tuple #[.int .i64 (kw t), .bool (decide (kw t ≠ 0))]) w' :=
  ⟨g, g.keep h.c3, look_any (h.mp.gr g) t (by omega)⟩

set_option maxHeartbeats 4000000 in
set_option maxRecDepth 100000 in
theorem dKind_any (b m : Nat) (ad : Option Addr) (T : List Tok) (cap : Nat) (q : St) (w : World) (h : Rd w b m ad T cap q) (hT : Gd T) (hi : q.i < T.length) (hn : T.length ≤ 5000) :
    Calls Tryd.prog 78 #[.pointer (some ⟨b, 0, none⟩)] w fun e w' => e = .returned (.int .i64 (kndV T q)) ∧ Rd w' b m ad T cap (kndS T q) ∧ GB b w w' := by
  have H1 : Hid (∀ w', Gr w w' → Calls Tryd.prog 36 #[.pointer (some ⟨b, 0, none⟩)] w' fun e w2 => e = .returned (.agg #[.int .i64 (tk T q.i).k, .string (tk T q.i).t, .int .i64 (tk T q.i).p]) ∧ Gr w' w2) := fun w' g => dHere_any b m ad T cap q w' (h.gr g) hi
  have H2 : Hid (∀ w', Rd w' b m ad T cap (if kw (tk T q.i).t = 0 then ⟨q.i, true⟩ else q) → Calls Tryd.prog 55 #[.pointer (some ⟨b, 0, none⟩), .int .i64 1] w' fun e w2 => (∃ s, e = .returned (.string s)) ∧ Rd w2 b m ad T cap (kndS T q) ∧ GB b w' w2) := by
    intro w' g
    refine (dTake_any b m ad T cap _ 1 w' g hT (by split <;> exact hi) hn).mono ?_
    rintro e w2 ⟨rfl, hr, hg⟩
    exact ⟨⟨_, rfl⟩, hr, hg⟩
  have HV : Hid (kndV T q = kw (tk T q.i).t) := rfl
  have HR : Hid (Rd w b m ad T cap q) := h
  have HZ : Hid ((tk T q.i).t.size ≤ 16) := hT.size q.i
  generalize kndV T q = KV at *
  generalize kndS T q = KS at *
  generalize tk T q.i = x at *
  obtain ⟨xk, xt, xp⟩ := x
  simp only at *
  obtain ⟨c0, c1, c2, c3, f1, f2, lt, _, _, _, _⟩ := h
  have hft := tok_text xk xp xt
  clear hi hn hT c0 c1 c2 f1 f2
  go_enter Tryd.func78, Tryd.ntmps78
  go_upto_region 1 with fail
  refine wp_region_held_drew (S := (fun w' => Gr w w' ∧ w'.cell? ⟨b, 3, none⟩ = some (.map (some m)) ∧ (Instr.lookup 60 (.map (some m)) (.string xt) true).run Tryd.prog w' = .ok (.tuple #[.int .i64 (kw xt), .bool (decide (kw xt ≠ 0))]) w')) (by kernel_rfl) (by exact holdK HR.out xt HZ.out (by (repeat' (first | with_reducible exact Gr.refl _ | with_reducible refine Gr.set ?_ _ ?_ _ | with_reducible refine Gr.alloc ?_ | with_reducible refine Gr.drew ?_ | with_reducible refine Gr.trans ?_ (by assumption))) <;> (first | (simp; done) | (simp; omega) | omega))) (fun hHeld => ?_)
  refine take_yes 0 6 (v := ?_) rfl rfl (by kernel_rfl) (by kernel_rfl) (by kernel_rfl) (fun _ _ _ h => h) (by rfl) ?_ hHeld ?_
  rotate_left
  · (intro w hSw; (try dsimp only at hSw); go_simp; try with_reducible rfl)
  simp only [Act.put, List.setIfInBounds_toArray, List.set_cons_zero, List.set_cons_succ]
  refine take_yes 1 7 (v := ?_) rfl rfl (by kernel_rfl) (by kernel_rfl) (by kernel_rfl) (fun _ _ _ h => h) (by rfl) ?_ hHeld ?_
  rotate_left
  · (intro w hSw; (try dsimp only at hSw); go_simp; try with_reducible rfl)
  simp only [Act.put, List.setIfInBounds_toArray, List.set_cons_zero, List.set_cons_succ]
  refine take_yes 2 8 (v := ?_) rfl rfl (by kernel_rfl) (by kernel_rfl) (by kernel_rfl) (fun _ _ _ h => h) (by rfl) ?_ hHeld ?_
  rotate_left
  · (intro w hSw; (try dsimp only at hSw); go_simp; try with_reducible rfl)
  simp only [Act.put, List.setIfInBounds_toArray, List.set_cons_zero, List.set_cons_succ]
  refine take_yes 3 9 (v := ?_) rfl rfl (by kernel_rfl) (by kernel_rfl) (by kernel_rfl) (fun _ _ _ h => h) (by rfl) ?_ hHeld ?_
  rotate_left
  · (intro w hSw; (try dsimp only at hSw); go_simp; try with_reducible rfl)
  simp only [Act.put, List.setIfInBounds_toArray, List.set_cons_zero, List.set_cons_succ]
  refine take_yes 4 10 (v := ?_) rfl rfl (by kernel_rfl) (by kernel_rfl) (by kernel_rfl) (fun _ _ _ h => h) (by rfl) ?_ hHeld ?_
  rotate_left
  · (intro w hSw; (try dsimp only at hSw); go_simp; try with_reducible rfl)
  simp only [Act.put, List.setIfInBounds_toArray, List.set_cons_zero, List.set_cons_succ]
  refine take_yes 5 11 (v := ?_) rfl rfl (by kernel_rfl) (by kernel_rfl) (by kernel_rfl) (fun _ _ _ h => h) (by rfl) ?_ hHeld ?_
  rotate_left
  · (intro w hSw; (try dsimp only at hSw); go_simp; try with_reducible rfl)
  simp only [Act.put, List.setIfInBounds_toArray, List.set_cons_zero, List.set_cons_succ]
  refine take_yes 6 12 (v := ?_) rfl rfl (by kernel_rfl) (by kernel_rfl) (by kernel_rfl) (fun _ _ _ h => h) (by rfl) ?_ hHeld ?_
  rotate_left
  · (intro w hSw; (try dsimp only at hSw); go_simp; try with_reducible rfl)
  simp only [Act.put, List.setIfInBounds_toArray, List.set_cons_zero, List.set_cons_succ]
  refine wpAnyH_ready (rs := [7]) (by kernel_rfl) (by simp) (AllReadyH.cons rfl (fun K hK => ?_) AllReadyH.nil)
  go_simp
  refine (H1.out _ (by (repeat' (first | with_reducible exact Gr.refl _ | with_reducible refine Gr.set ?_ _ ?_ _ | with_reducible refine Gr.alloc ?_ | with_reducible refine Gr.drew ?_ | with_reducible refine Gr.trans ?_ (by assumption))) <;> (first | (simp; done) | (simp; omega) | omega))).mono ?_; rintro e w1 ⟨rfl, hg1⟩
  (try go_wp2_with fail)
  refine hK.out _ _ (by exact holdK HR.out xt HZ.out (by (repeat' (first | with_reducible exact Gr.refl _ | with_reducible refine Gr.set ?_ _ ?_ _ | with_reducible refine Gr.alloc ?_ | with_reducible refine Gr.drew ?_ | with_reducible refine Gr.trans ?_ (by assumption))) <;> (first | (simp; done) | (simp; omega) | omega))) (fun hHeldN => ?_)
  clear hHeld hK K
  have hHeld := hHeldN
  clear hHeldN
  refine take_yes 8 14 (v := ?_) rfl rfl (by kernel_rfl) (by kernel_rfl) (by kernel_rfl) (fun _ _ _ h => h) (by rfl) ?_ hHeld ?_
  rotate_left
  · (intro w hSw; (try dsimp only at hSw); go_simp; try with_reducible rfl)
  simp only [Act.put, List.setIfInBounds_toArray, List.set_cons_zero, List.set_cons_succ]
  refine take_yes 9 15 (v := ?_) rfl rfl (by kernel_rfl) (by kernel_rfl) (by kernel_rfl) (fun _ _ _ h => h) (by rfl) ?_ hHeld ?_
  rotate_left
  · (intro w hSw; (try dsimp only at hSw); go_simp; try with_reducible rfl)
  simp only [Act.put, List.setIfInBounds_toArray, List.set_cons_zero, List.set_cons_succ]
  refine take_yes 10 5 (v := ?_) rfl rfl (by kernel_rfl) (by kernel_rfl) (by kernel_rfl) (fun _ _ _ h => h) (by rfl) ?_ hHeld ?_
  rotate_left
  · (intro w hSw; (try dsimp only at hSw); go_simp; try with_reducible rfl)
  simp only [Act.put, List.setIfInBounds_toArray, List.set_cons_zero, List.set_cons_succ]
  refine take_yes 11 16 (v := ?_) rfl rfl (by kernel_rfl) (by kernel_rfl) (by kernel_rfl) (fun _ _ _ h => h) (by rfl) ?_ hHeld ?_
  rotate_left
  · (intro w hSw; (try dsimp only at hSw); go_simp; try with_reducible rfl)
  simp only [Act.put, List.setIfInBounds_toArray, List.set_cons_zero, List.set_cons_succ]
  refine take_yes 12 17 (v := ?_) rfl rfl (by kernel_rfl) (by kernel_rfl) (by kernel_rfl) (fun _ _ _ h => h) (by rfl) ?_ hHeld ?_
  rotate_left
  · (intro w hSw; (try dsimp only at hSw); go_simp; try with_reducible rfl)
  simp only [Act.put, List.setIfInBounds_toArray, List.set_cons_zero, List.set_cons_succ]
  refine take_yes 13 3 (v := ?_) rfl rfl (by kernel_rfl) (by kernel_rfl) (by kernel_rfl) (fun _ _ _ h => h) (by rfl) ?_ hHeld ?_
  rotate_left
  · (intro w hSw; (try dsimp only at hSw); go_simp; try with_reducible rfl)
  simp only [Act.put, List.setIfInBounds_toArray, List.set_cons_zero, List.set_cons_succ]
  refine take_yes 14 4 (v := ?_) rfl rfl (by kernel_rfl) (by kernel_rfl) (by kernel_rfl) (fun _ _ _ h => h) (by rfl) ?_ hHeld ?_
  rotate_left
  · (intro w hSw; (try dsimp only at hSw); go_simp; try with_reducible rfl)
  simp only [Act.put, List.setIfInBounds_toArray, List.set_cons_zero, List.set_cons_succ]
  refine wpAnyH_done (by kernel_rfl) ?_ _
  have HGW : Hid (Gr w w1) := hHeld.1
  have HR1 := Lib.hid (HR.out.gr HGW.out)
  obtain ⟨c0, c1, c2, c3', f1, f2, lt', _, _, _, _⟩ := HR1.out
  clear hg1 hHeld c3 c3' lt
  by_cases h0 : kw xt = 0
  · rw [if_pos h0] at H2
    have hd : decide (kw xt = 0) = true := by simpa using h0
    have HV2 : Hid (KV = 0) := HV.out.trans h0
    rw [hd, h0]
    clear h0 hd HV
    go_wp2_with fail
    refine (H2.out _ (HR1.out.set2 true)).mono ?_
    rintro e w2 ⟨⟨sx, rfl⟩, hr, hg⟩
    have HR2 := Lib.hid hr
    have HG2 := Lib.hid hg
    clear hr hg
    go_wp2
    go_ret
    exact ⟨by rw [HV2.out]; rfl, HR2.out, (GB.setNew (GB.ofGr HGW.out) ⟨b, 2, none⟩ _ (Or.inr rfl)).trans HG2.out⟩
  · rw [if_neg h0] at H2
    have hd : decide (kw xt = 0) = false := by simpa using h0
    rw [hd]
    generalize kw xt = KX at *
    clear h0 hd
    go_wp2_with fail
    refine (H2.out _ HR1.out).mono ?_
    rintro e w2 ⟨⟨sx, rfl⟩, hr, hg⟩
    have HR2 := Lib.hid hr
    have HG2 := Lib.hid hg
    clear hr hg
    go_wp2
    go_ret
    exact ⟨by rw [HV.out]; rfl, HR2.out, (GB.ofGr HGW.out).trans HG2.out⟩
end Go.Proofs.YtdliljijgokpjaaDoor
