/- def: the words of a step. -/
import Derived.Test.YtdliljijgokpjaaDoorDefY
import Derived.Test.YtdliljijgokpjaaDoorRegH
import Derived.Test.YtdliljijgokpjaaDoorDefO
import Derived.Lib.JoinLaws
import Derived.Deep.DeepCutAuto
namespace Go.Proofs.YtdliljijgokpjaaDoor
open Go.RowKit
open Df (Stp ownB askB stpB defB chE wk)
open _root_.Go.Proofs.YtdliljijgokpjaaDoor.Act (nameB)

/- the table of powers lies there -/
structure Env (w : World) : Prop where
  tab : Lib.TabIs Tryd.prog w "internal/strconv.uint64pow10" .u64 Lib.pow10Tab
theorem Env.gr {w w' : World} (h : Env w) (g : Gr w w') : Env w' := by
  obtain ⟨ht⟩ := h
  have hc := World.var?_cell (by kernel_rfl : Tryd.prog.globalNamed "internal/strconv.uint64pow10" = some 1) ht 0
  have hb : 1 < w.heap.size := World.block_lt_of_cell? w ⟨1, 0, none⟩ (u := .int .u64 1) (by rw [hc]; rfl)
  exact ⟨var?_below g.below (by kernel_rfl : Tryd.prog.globalNamed "internal/strconv.uint64pow10" = some 1) hb ht⟩
theorem gr_grow (w : World) (k : Nat) (obs : Array Obj) : Gr w (Sort.grow (w.drewN k) obs) := by
  refine ⟨⟨rfl, rfl, rfl, ?_, ?_⟩⟩
  · simp [Sort.grow, World.drewN]
  · intro j hj
    simp [Sort.grow, World.drewN, Array.getElem?_append, hj]
theorem itoa_any (n : Int) (w : World) (h0 : 0 ≤ n) (h1 : n < 100) : Calls Tryd.prog 46 #[.int .i64 n] w fun e w' => e = .returned (.string (dg n)) ∧ Gr w w' := by
  have := Tryd.strconv_Itoa_small n.toNat (by omega) w
  rw [show ((n.toNat : Nat) : Int) = n by omega] at this
  refine this.mono ?_
  rintro e w' ⟨rfl, hw⟩
  rw [hw]
  exact ⟨rfl, Gr.refl _⟩
theorem formatInt_any (n : Int) (w : World) (h0 : 0 ≤ n) (h1 : n ≤ 9223372036854775807) (he : Env w) : Calls Tryd.prog 48 #[.int .i64 n, .int .i64 10] w fun e w' => e = .returned (.string (dg n)) ∧ Gr w w' := by
  refine (Tryd.strconv_FormatInt_10 n (by omega) h1 w he.tab).mono ?_
  rintro e w' ⟨rfl, k, obs, rfl⟩
  refine ⟨?_, gr_grow w k obs⟩
  have : Lib.itoa n = Lib.decDigits n.toNat := by
    unfold Lib.itoa
    rw [if_neg (by omega)]
  rw [this]; rfl

def StrsIn (w : World) (g : Nat) (xs : List ByteArray) : Prop := ∀ (j : Nat) x, xs[j]? = some x → w.cell? ⟨g, 0 + j, none⟩ = some (.string x)
theorem strs_new (w : World) (a b c d e : ByteArray) (t : TypeId) : StrsIn (w.alloc (.cells #[.string a, .string b, .string c, .string d, .string e] t)) w.heap.size [a, b, c, d, e] := by
  intro j x hx
  have hj : j < 5 := by
    have := (List.getElem?_eq_some_iff.1 hx).1
    simpa using this
  match j, hj with
  | 0, _ => simp at hx; subst hx; simp
  | 1, _ => simp at hx; subst hx; simp
  | 2, _ => simp at hx; subst hx; simp
  | 3, _ => simp at hx; subst hx; simp
  | 4, _ => simp at hx; subst hx; simp
theorem holdW {a b : World} {g : Nat} {v0 v1 v2 v3 v4 v5 v6 : Value} (h : AccAt a g v0 v1 v2 v3 v4 v5 v6) (k : Gr a b) : Gr a b ∧ b.cell? ⟨g, 0, none⟩ = some v0 ∧ b.cell? ⟨g, 1, none⟩ = some v1 ∧ b.cell? ⟨g, 2, none⟩ = some v2 ∧ b.cell? ⟨g, 3, none⟩ = some v3 ∧ b.cell? ⟨g, 4, none⟩ = some v4 ∧ b.cell? ⟨g, 5, none⟩ = some v5 ∧ b.cell? ⟨g, 6, none⟩ = some v6 :=
  ⟨k, k.keep h.c0, k.keep h.c1, k.keep h.c2, k.keep h.c3, k.keep h.c4, k.keep h.c5, k.keep h.c6⟩
def WdR (w : World) (xs : List ByteArray) (e : Ending) (w' : World) : Prop := ∃ g, e = .returned (.slice (some ⟨g, 0, none⟩) 5 5) ∧ g < w'.heap.size ∧ StrsIn w' g xs ∧ Gr w w'

set_option maxHeartbeats 8000000 in
set_option maxRecDepth 100000 in
theorem words_any (s : Stp) (w : World) (hs : inS s) (hb : stpB s = true) (he : Env w) : Calls Tryd.prog 22 #[.agg #[.int .i64 s.k, .string s.a, .int .i64 s.n, .int .i64 s.o, .string s.u, .int .i64 s.y, .int .i64 s.v]] w fun e w' => WdR w (stW s) e w' := by
  have HA : Hid (∀ w', Calls Tryd.prog 29 #[.agg #[.int .i64 s.k, .string s.a, .int .i64 s.n, .int .i64 s.o, .string s.u, .int .i64 s.y, .int .i64 s.v]] w' fun e w2 => e = .returned (.bool (askB s)) ∧ Gr w' w2) := fun w' => asks_any s w' hs
  have HX0 := Lib.hid (AccAt.new w (.int .i64 s.k) (.string s.a) (.int .i64 s.n) (.int .i64 s.o) (.string s.u) (.int .i64 s.y) (.int .i64 s.v) 47 _ rfl)
  have HW : Hid (stW s = if askB s = true then [Df.wAsk, dg s.o, s.u, Df.wWait, dg s.v] else [wk s.k, s.a, dg s.n, Df.wTries, dg s.y]) := rfl
  have HE : Hid (Env w) := he
  cases hk : askB s with
  | true =>
    have hq := (Df.ask_iff s).1 hk
    have o1 := hq.2.2.2.2.2.1
    have o2 := hq.2.2.2.2.2.2.1
    have v1 := hq.2.2.2.2.2.2.2.1
    have v2 := hq.2.2.2.2.2.2.2.2
    clear hq
    have H1 : Hid (∀ w', Calls Tryd.prog 46 #[.int .i64 s.o] w' fun e w2 => e = .returned (.string (dg s.o)) ∧ Gr w' w2) := fun w' => itoa_any s.o w' o1 (by omega)
    have H2 : Hid (∀ w', Calls Tryd.prog 46 #[.int .i64 s.v] w' fun e w2 => e = .returned (.string (dg s.v)) ∧ Gr w' w2) := fun w' => itoa_any s.v w' (by omega) (by omega)
    rw [hk] at HA HW
    rw [if_pos rfl] at HW
    clear hk hs hb he o1 o2 v1 v2
    generalize stW s = WS at *
    generalize dg s.o = DO at *
    generalize dg s.v = DV at *
    go_enter Tryd.func22, Tryd.ntmps22
    go_wp2_with fail
    refine (HA.out _).mono ?_
    rintro e w1 ⟨rfl, hg⟩
    have HX1 := Lib.hid (HX0.out.gr hg)
    have HG1 : Hid (Gr w w1) := (Gr.refl _).alloc.trans hg
    obtain ⟨x0, x1, x2, x3, x4, x5, x6⟩ := HX1.out.cells
    have xl := HX1.out.lt
    clear hg
    go_upto_region 2 with fail
    refine wp_region_held_drew (S := (fun w' => Gr w1 w' ∧ w'.cell? ⟨w.heap.size, 0, none⟩ = some (.int .i64 s.k) ∧ w'.cell? ⟨w.heap.size, 1, none⟩ = some (.string s.a) ∧ w'.cell? ⟨w.heap.size, 2, none⟩ = some (.int .i64 s.n) ∧ w'.cell? ⟨w.heap.size, 3, none⟩ = some (.int .i64 s.o) ∧ w'.cell? ⟨w.heap.size, 4, none⟩ = some (.string s.u) ∧ w'.cell? ⟨w.heap.size, 5, none⟩ = some (.int .i64 s.y) ∧ w'.cell? ⟨w.heap.size, 6, none⟩ = some (.int .i64 s.v))) (by kernel_rfl) (by exact holdW HX1.out (by (repeat' (first | with_reducible exact Gr.refl _ | with_reducible refine Gr.set ?_ _ ?_ _ | with_reducible refine Gr.alloc ?_ | with_reducible refine Gr.drew ?_ | with_reducible refine Gr.trans ?_ (by assumption))) <;> (first | (simp; done) | (simp; omega) | omega))) (fun hHeld => ?_)
    refine take_yes 0 5 (v := ?_) rfl rfl (by kernel_rfl) (by kernel_rfl) (by kernel_rfl) (fun _ _ _ h => h) (by rfl) ?_ hHeld ?_
    rotate_left
    · (intro w hSw; (try dsimp only at hSw); go_simp; try with_reducible rfl)
    simp only [Act.put, List.setIfInBounds_toArray, List.set_cons_zero, List.set_cons_succ]
    refine take_yes 1 6 (v := ?_) rfl rfl (by kernel_rfl) (by kernel_rfl) (by kernel_rfl) (fun _ _ _ h => h) (by rfl) ?_ hHeld ?_
    rotate_left
    · (intro w hSw; (try dsimp only at hSw); go_simp; try with_reducible rfl)
    simp only [Act.put, List.setIfInBounds_toArray, List.set_cons_zero, List.set_cons_succ]
    refine take_yes 3 8 (v := ?_) rfl rfl (by kernel_rfl) (by kernel_rfl) (by kernel_rfl) (fun _ _ _ h => h) (by rfl) ?_ hHeld ?_
    rotate_left
    · (intro w hSw; (try dsimp only at hSw); go_simp; try with_reducible rfl)
    simp only [Act.put, List.setIfInBounds_toArray, List.set_cons_zero, List.set_cons_succ]
    refine take_yes 4 9 (v := ?_) rfl rfl (by kernel_rfl) (by kernel_rfl) (by kernel_rfl) (fun _ _ _ h => h) (by rfl) ?_ hHeld ?_
    rotate_left
    · (intro w hSw; (try dsimp only at hSw); go_simp; try with_reducible rfl)
    simp only [Act.put, List.setIfInBounds_toArray, List.set_cons_zero, List.set_cons_succ]
    refine take_yes 5 10 (v := ?_) rfl rfl (by kernel_rfl) (by kernel_rfl) (by kernel_rfl) (fun _ _ _ h => h) (by rfl) ?_ hHeld ?_
    rotate_left
    · (intro w hSw; (try dsimp only at hSw); go_simp; try with_reducible rfl)
    simp only [Act.put, List.setIfInBounds_toArray, List.set_cons_zero, List.set_cons_succ]
    refine take_yes 6 11 (v := ?_) rfl rfl (by kernel_rfl) (by kernel_rfl) (by kernel_rfl) (fun _ _ _ h => h) (by rfl) ?_ hHeld ?_
    rotate_left
    · (intro w hSw; (try dsimp only at hSw); go_simp; try with_reducible rfl)
    simp only [Act.put, List.setIfInBounds_toArray, List.set_cons_zero, List.set_cons_succ]
    refine wpAnyH_ready (rs := [2]) (by kernel_rfl) (by simp) (AllReadyH.cons rfl (fun K hK => ?_) AllReadyH.nil)
    go_simp
    refine (H1.out _).mono ?_; rintro e w2 ⟨rfl, hg2⟩
    (try go_wp2_with fail)
    refine hK.out _ _ (by exact holdW HX1.out (by (repeat' (first | with_reducible exact Gr.refl _ | with_reducible refine Gr.set ?_ _ ?_ _ | with_reducible refine Gr.alloc ?_ | with_reducible refine Gr.drew ?_ | with_reducible refine Gr.trans ?_ (by assumption))) <;> (first | (simp; done) | (simp; omega) | omega))) (fun hHeldN => ?_)
    clear hHeld hK K
    have hHeld := hHeldN
    clear hHeldN
    refine wpAnyH_ready (rs := [7]) (by kernel_rfl) (by simp) (AllReadyH.cons rfl (fun K hK => ?_) AllReadyH.nil)
    go_simp
    refine (H2.out _).mono ?_; rintro e w3 ⟨rfl, hg3⟩
    (try go_wp2_with fail)
    refine hK.out _ _ (by exact holdW HX1.out (by (repeat' (first | with_reducible exact Gr.refl _ | with_reducible refine Gr.set ?_ _ ?_ _ | with_reducible refine Gr.alloc ?_ | with_reducible refine Gr.drew ?_ | with_reducible refine Gr.trans ?_ (by assumption))) <;> (first | (simp; done) | (simp; omega) | omega))) (fun hHeldN => ?_)
    clear hHeld hK K
    have hHeld := hHeldN
    clear hHeldN
    refine wpAnyH_ready (rs := [8]) (by kernel_rfl) (by simp) (AllReadyH.cons rfl (fun K hK => ?_) AllReadyH.nil)
    go_simp
    refine hK.out _ _ (by exact holdW HX1.out (by (repeat' (first | with_reducible exact Gr.refl _ | with_reducible refine Gr.set ?_ _ ?_ _ | with_reducible refine Gr.alloc ?_ | with_reducible refine Gr.drew ?_ | with_reducible refine Gr.trans ?_ (by assumption))) <;> (first | (simp; done) | (simp; omega) | omega))) (fun hHeldN => ?_)
    clear hHeld hK K
    have hHeld := hHeldN
    clear hHeldN
    refine take_yes 9 2 (v := ?_) rfl rfl (by kernel_rfl) (by kernel_rfl) (by kernel_rfl) (fun _ _ _ h => h) (by rfl) ?_ hHeld ?_
    rotate_left
    · (intro w hSw; (try dsimp only at hSw); go_simp; try with_reducible rfl)
    simp only [Act.put, List.setIfInBounds_toArray, List.set_cons_zero, List.set_cons_succ]
    refine wpAnyH_done (by kernel_rfl) ?_ _
    go_wp2
    go_ret
    refine ⟨w3.heap.size, rfl, by simp, ?_, HG1.out.trans (by (repeat' (first | with_reducible exact Gr.refl _ | with_reducible refine Gr.set ?_ _ ?_ _ | with_reducible refine Gr.alloc ?_ | with_reducible refine Gr.drew ?_ | with_reducible refine Gr.trans ?_ (by assumption))) <;> (first | (simp; done) | (simp; omega) | omega))⟩
    rw [HW.out]
    exact strs_new w3 _ _ _ _ _ _
  | false =>
    have hob : ownB s = true := by unfold Df.stpB at hb; rw [hk] at hb; simpa using hb
    have hq := (Df.own_iff s).1 hob
    have ab := hq.2.1
    have y1 := hq.2.2.2.2.1
    have y2 := hq.2.2.2.2.2
    have n1 := ((Act.act_iff s.k s.a s.n).1 ab).2.2.1
    have n2 := ((Act.act_iff s.k s.a s.n).1 ab).2.2.2
    clear hq
    have H0 : Hid (∀ w', Calls Tryd.prog 47 #[.int .i64 s.k] w' fun e w2 => e = .returned (.string (wk s.k)) ∧ Gr w' w2) := fun w' => kindWord_any s.k w'
    have H1 : Hid (∀ w', Gr w w' → Calls Tryd.prog 48 #[.int .i64 s.n, .int .i64 10] w' fun e w2 => e = .returned (.string (dg s.n)) ∧ Gr w' w2) := fun w' g => formatInt_any s.n w' (by omega) (by omega) (he.gr g)
    have H2 : Hid (∀ w', Calls Tryd.prog 46 #[.int .i64 s.y] w' fun e w2 => e = .returned (.string (dg s.y)) ∧ Gr w' w2) := fun w' => itoa_any s.y w' (by omega) (by omega)
    rw [hk] at HA HW
    rw [if_neg (by decide)] at HW
    clear hk hs hb he hob ab n1 n2 y1 y2
    generalize stW s = WS at *
    generalize dg s.n = DN at *
    generalize dg s.y = DY at *
    generalize wk s.k = KW at *
    go_enter Tryd.func22, Tryd.ntmps22
    go_wp2_with fail
    refine (HA.out _).mono ?_
    rintro e w1 ⟨rfl, hg⟩
    have HX1 := Lib.hid (HX0.out.gr hg)
    have HG1 : Hid (Gr w w1) := (Gr.refl _).alloc.trans hg
    obtain ⟨x0, x1, x2, x3, x4, x5, x6⟩ := HX1.out.cells
    have xl := HX1.out.lt
    clear hg
    go_upto_region 3 with fail
    refine wp_region_held_drew (S := (fun w' => Gr w1 w' ∧ w'.cell? ⟨w.heap.size, 0, none⟩ = some (.int .i64 s.k) ∧ w'.cell? ⟨w.heap.size, 1, none⟩ = some (.string s.a) ∧ w'.cell? ⟨w.heap.size, 2, none⟩ = some (.int .i64 s.n) ∧ w'.cell? ⟨w.heap.size, 3, none⟩ = some (.int .i64 s.o) ∧ w'.cell? ⟨w.heap.size, 4, none⟩ = some (.string s.u) ∧ w'.cell? ⟨w.heap.size, 5, none⟩ = some (.int .i64 s.y) ∧ w'.cell? ⟨w.heap.size, 6, none⟩ = some (.int .i64 s.v))) (by kernel_rfl) (by exact holdW HX1.out (by (repeat' (first | with_reducible exact Gr.refl _ | with_reducible refine Gr.set ?_ _ ?_ _ | with_reducible refine Gr.alloc ?_ | with_reducible refine Gr.drew ?_ | with_reducible refine Gr.trans ?_ (by assumption))) <;> (first | (simp; done) | (simp; omega) | omega))) (fun hHeld => ?_)
    refine take_yes 0 14 (v := ?_) rfl rfl (by kernel_rfl) (by kernel_rfl) (by kernel_rfl) (fun _ _ _ h => h) (by rfl) ?_ hHeld ?_
    rotate_left
    · (intro w hSw; (try dsimp only at hSw); go_simp; try with_reducible rfl)
    simp only [Act.put, List.setIfInBounds_toArray, List.set_cons_zero, List.set_cons_succ]
    refine take_yes 1 15 (v := ?_) rfl rfl (by kernel_rfl) (by kernel_rfl) (by kernel_rfl) (fun _ _ _ h => h) (by rfl) ?_ hHeld ?_
    rotate_left
    · (intro w hSw; (try dsimp only at hSw); go_simp; try with_reducible rfl)
    simp only [Act.put, List.setIfInBounds_toArray, List.set_cons_zero, List.set_cons_succ]
    refine take_yes 2 16 (v := ?_) rfl rfl (by kernel_rfl) (by kernel_rfl) (by kernel_rfl) (fun _ _ _ h => h) (by rfl) ?_ hHeld ?_
    rotate_left
    · (intro w hSw; (try dsimp only at hSw); go_simp; try with_reducible rfl)
    simp only [Act.put, List.setIfInBounds_toArray, List.set_cons_zero, List.set_cons_succ]
    refine take_yes 4 18 (v := ?_) rfl rfl (by kernel_rfl) (by kernel_rfl) (by kernel_rfl) (fun _ _ _ h => h) (by rfl) ?_ hHeld ?_
    rotate_left
    · (intro w hSw; (try dsimp only at hSw); go_simp; try with_reducible rfl)
    simp only [Act.put, List.setIfInBounds_toArray, List.set_cons_zero, List.set_cons_succ]
    refine take_yes 5 19 (v := ?_) rfl rfl (by kernel_rfl) (by kernel_rfl) (by kernel_rfl) (fun _ _ _ h => h) (by rfl) ?_ hHeld ?_
    rotate_left
    · (intro w hSw; (try dsimp only at hSw); go_simp; try with_reducible rfl)
    simp only [Act.put, List.setIfInBounds_toArray, List.set_cons_zero, List.set_cons_succ]
    refine take_yes 6 20 (v := ?_) rfl rfl (by kernel_rfl) (by kernel_rfl) (by kernel_rfl) (fun _ _ _ h => h) (by rfl) ?_ hHeld ?_
    rotate_left
    · (intro w hSw; (try dsimp only at hSw); go_simp; try with_reducible rfl)
    simp only [Act.put, List.setIfInBounds_toArray, List.set_cons_zero, List.set_cons_succ]
    refine take_yes 7 21 (v := ?_) rfl rfl (by kernel_rfl) (by kernel_rfl) (by kernel_rfl) (fun _ _ _ h => h) (by rfl) ?_ hHeld ?_
    rotate_left
    · (intro w hSw; (try dsimp only at hSw); go_simp; try with_reducible rfl)
    simp only [Act.put, List.setIfInBounds_toArray, List.set_cons_zero, List.set_cons_succ]
    refine take_yes 8 22 (v := ?_) rfl rfl (by kernel_rfl) (by kernel_rfl) (by kernel_rfl) (fun _ _ _ h => h) (by rfl) ?_ hHeld ?_
    rotate_left
    · (intro w hSw; (try dsimp only at hSw); go_simp; try with_reducible rfl)
    simp only [Act.put, List.setIfInBounds_toArray, List.set_cons_zero, List.set_cons_succ]
    refine take_yes 9 23 (v := ?_) rfl rfl (by kernel_rfl) (by kernel_rfl) (by kernel_rfl) (fun _ _ _ h => h) (by rfl) ?_ hHeld ?_
    rotate_left
    · (intro w hSw; (try dsimp only at hSw); go_simp; try with_reducible rfl)
    simp only [Act.put, List.setIfInBounds_toArray, List.set_cons_zero, List.set_cons_succ]
    refine take_yes 11 25 (v := ?_) rfl rfl (by kernel_rfl) (by kernel_rfl) (by kernel_rfl) (fun _ _ _ h => h) (by rfl) ?_ hHeld ?_
    rotate_left
    · (intro w hSw; (try dsimp only at hSw); go_simp; try with_reducible rfl)
    simp only [Act.put, List.setIfInBounds_toArray, List.set_cons_zero, List.set_cons_succ]
    refine take_yes 12 26 (v := ?_) rfl rfl (by kernel_rfl) (by kernel_rfl) (by kernel_rfl) (fun _ _ _ h => h) (by rfl) ?_ hHeld ?_
    rotate_left
    · (intro w hSw; (try dsimp only at hSw); go_simp; try with_reducible rfl)
    simp only [Act.put, List.setIfInBounds_toArray, List.set_cons_zero, List.set_cons_succ]
    refine wpAnyH_ready (rs := [3]) (by kernel_rfl) (by simp) (AllReadyH.cons rfl (fun K hK => ?_) AllReadyH.nil)
    go_simp
    refine (H0.out _).mono ?_; rintro e w2 ⟨rfl, hg2⟩
    (try go_wp2_with fail)
    refine hK.out _ _ (by exact holdW HX1.out (by (repeat' (first | with_reducible exact Gr.refl _ | with_reducible refine Gr.set ?_ _ ?_ _ | with_reducible refine Gr.alloc ?_ | with_reducible refine Gr.drew ?_ | with_reducible refine Gr.trans ?_ (by assumption))) <;> (first | (simp; done) | (simp; omega) | omega))) (fun hHeldN => ?_)
    clear hHeld hK K
    have hHeld := hHeldN
    clear hHeldN
    refine wpAnyH_ready (rs := [10]) (by kernel_rfl) (by simp) (AllReadyH.cons rfl (fun K hK => ?_) AllReadyH.nil)
    go_simp
    refine (H1.out _ (HG1.out.trans (by (repeat' (first | with_reducible exact Gr.refl _ | with_reducible refine Gr.set ?_ _ ?_ _ | with_reducible refine Gr.alloc ?_ | with_reducible refine Gr.drew ?_ | with_reducible refine Gr.trans ?_ (by assumption))) <;> (first | (simp; done) | (simp; omega) | omega)))).mono ?_; rintro e w3 ⟨rfl, hg3⟩
    (try go_wp2_with fail)
    refine hK.out _ _ (by exact holdW HX1.out (by (repeat' (first | with_reducible exact Gr.refl _ | with_reducible refine Gr.set ?_ _ ?_ _ | with_reducible refine Gr.alloc ?_ | with_reducible refine Gr.drew ?_ | with_reducible refine Gr.trans ?_ (by assumption))) <;> (first | (simp; done) | (simp; omega) | omega))) (fun hHeldN => ?_)
    clear hHeld hK K
    have hHeld := hHeldN
    clear hHeldN
    refine wpAnyH_ready (rs := [13]) (by kernel_rfl) (by simp) (AllReadyH.cons rfl (fun K hK => ?_) AllReadyH.nil)
    go_simp
    refine (H2.out _).mono ?_; rintro e w4 ⟨rfl, hg4⟩
    (try go_wp2_with fail)
    refine hK.out _ _ (by exact holdW HX1.out (by (repeat' (first | with_reducible exact Gr.refl _ | with_reducible refine Gr.set ?_ _ ?_ _ | with_reducible refine Gr.alloc ?_ | with_reducible refine Gr.drew ?_ | with_reducible refine Gr.trans ?_ (by assumption))) <;> (first | (simp; done) | (simp; omega) | omega))) (fun hHeldN => ?_)
    clear hHeld hK K
    have hHeld := hHeldN
    clear hHeldN
    refine wpAnyH_ready (rs := [14]) (by kernel_rfl) (by simp) (AllReadyH.cons rfl (fun K hK => ?_) AllReadyH.nil)
    go_simp
    refine hK.out _ _ (by exact holdW HX1.out (by (repeat' (first | with_reducible exact Gr.refl _ | with_reducible refine Gr.set ?_ _ ?_ _ | with_reducible refine Gr.alloc ?_ | with_reducible refine Gr.drew ?_ | with_reducible refine Gr.trans ?_ (by assumption))) <;> (first | (simp; done) | (simp; omega) | omega))) (fun hHeldN => ?_)
    clear hHeld hK K
    have hHeld := hHeldN
    clear hHeldN
    refine take_yes 15 2 (v := ?_) rfl rfl (by kernel_rfl) (by kernel_rfl) (by kernel_rfl) (fun _ _ _ h => h) (by rfl) ?_ hHeld ?_
    rotate_left
    · (intro w hSw; (try dsimp only at hSw); go_simp; try with_reducible rfl)
    simp only [Act.put, List.setIfInBounds_toArray, List.set_cons_zero, List.set_cons_succ]
    refine wpAnyH_done (by kernel_rfl) ?_ _
    go_wp2
    go_ret
    refine ⟨w4.heap.size, rfl, by simp, ?_, HG1.out.trans (by (repeat' (first | with_reducible exact Gr.refl _ | with_reducible refine Gr.set ?_ _ ?_ _ | with_reducible refine Gr.alloc ?_ | with_reducible refine Gr.drew ?_ | with_reducible refine Gr.trans ?_ (by assumption))) <;> (first | (simp; done) | (simp; omega) | omega))⟩
    rw [HW.out]
    exact strs_new w4 _ _ _ _ _ _
end Go.Proofs.YtdliljijgokpjaaDoor
