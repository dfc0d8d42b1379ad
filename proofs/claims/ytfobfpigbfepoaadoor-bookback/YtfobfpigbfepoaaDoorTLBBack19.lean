/- What the proof is made of, part 19. -/
import Derived.Test.YtfobfpigbfepoaaDoorTLBBack18
import Derived.Lib.JoinLaws
import Derived.Deep.DeepCutAuto
import Derived.Shelf.Strings.Builder1
import Derived.Test.YtfobfpigbfepoaaDoorProg
namespace Go.Proofs.YtfobfpigbfepoaaDoor
open Go.RowKit
open Df (Stp ownB askB stpB defB chE wk)
open _root_.Go.Proofs.YtfobfpigbfepoaaDoor.Act (nameB)
structure Env (w : World) : Prop where
  tab : Lib.TabIs Tryd.prog w "internal/strconv.uint64pow10" .u64 Lib.pow10Tab
theorem Env.gr {w w' : World} (h : Env w) (g : Gr w w') : Env w' := by
  obtain ⟨ht⟩ := h
  have hc := World.var?_cell (by kernel_rfl : Tryd.prog.globalNamed "internal/strconv.uint64pow10" = some 1) ht 0
  have hb : 1 < w.heap.size := World.block_lt_of_cell? w ⟨1, 0, none⟩ (u := .int .u64 1) (by rw [hc]; rfl)
  exact ⟨var?_below g.below (by kernel_rfl : Tryd.prog.globalNamed "internal/strconv.uint64pow10" = some 1) hb ht⟩
theorem gr_grow (w : World) (k : Nat) (obs : Array Obj) : Gr w (Sort.grow (w.drewN k) obs) := by
  refine ⟨⟨rfl, rfl, rfl, ?_, ?_⟩⟩
  · simp [Sort.grow, World.drewN]
  · intro j hj
    simp [Sort.grow, World.drewN, Array.getElem?_append, hj]
theorem itoa_any (n : Int) (w : World) (h0 : 0 ≤ n) (h1 : n < 100) : Calls Tryd.prog 39 #[.int .i64 n] w fun e w' => e = .returned (.string (dg n)) ∧ Gr w w' := by
  have := Tryd.strconv_Itoa_small n.toNat (by omega) w
  rw [show ((n.toNat : Nat) : Int) = n by omega] at this
  refine this.mono ?_
  rintro e w' ⟨rfl, hw⟩
  rw [hw]
  exact ⟨rfl, Gr.refl _⟩
theorem formatInt_any (n : Int) (w : World) (h0 : 0 ≤ n) (h1 : n ≤ 9223372036854775807) (he : Env w) : Calls Tryd.prog 41 #[.int .i64 n, .int .i64 10] w fun e w' => e = .returned (.string (dg n)) ∧ Gr w w' := by
  refine (Tryd.strconv_FormatInt_10 n (by omega) h1 w he.tab).mono ?_
  rintro e w' ⟨rfl, k, obs, rfl⟩
  refine ⟨?_, gr_grow w k obs⟩
  have : Lib.itoa n = Lib.decDigits n.toNat := by
    unfold Lib.itoa
    rw [if_neg (by omega)]
  rw [this]; rfl
def StrsIn (w : World) (g : Nat) (xs : List ByteArray) : Prop := ∀ (j : Nat) x, xs[j]? = some x → w.cell? ⟨g, 0 + j, none⟩ = some (.string x)
theorem strs_new (w : World) (a b c d e : ByteArray) (t : TypeId) : StrsIn (w.alloc (.cells #[.string a, .string b, .string c, .string d, .string e] t)) w.heap.size [a, b, c, d, e] := by
  intro j x hx
  have hj : j < 5 := by
    have := (List.getElem?_eq_some_iff.1 hx).1
    simpa using this
  match j, hj with
  | 0, _ => simp at hx; subst hx; simp
  | 1, _ => simp at hx; subst hx; simp
  | 2, _ => simp at hx; subst hx; simp
  | 3, _ => simp at hx; subst hx; simp
  | 4, _ => simp at hx; subst hx; simp
theorem holdW {a b : World} {g : Nat} {v0 v1 v2 v3 v4 v5 v6 : Value} (h : AccAt a g v0 v1 v2 v3 v4 v5 v6) (k : Gr a b) : Gr a b ∧ b.cell? ⟨g, 0, none⟩ = some v0 ∧ b.cell? ⟨g, 1, none⟩ = some v1 ∧ b.cell? ⟨g, 2, none⟩ = some v2 ∧ b.cell? ⟨g, 3, none⟩ = some v3 ∧ b.cell? ⟨g, 4, none⟩ = some v4 ∧ b.cell? ⟨g, 5, none⟩ = some v5 ∧ b.cell? ⟨g, 6, none⟩ = some v6 :=
  ⟨k, k.keep h.c0, k.keep h.c1, k.keep h.c2, k.keep h.c3, k.keep h.c4, k.keep h.c5, k.keep h.c6⟩
def WdR (w : World) (xs : List ByteArray) (e : Ending) (w' : World) : Prop := ∃ g, e = .returned (.slice (some ⟨g, 0, none⟩) 5 5) ∧ g < w'.heap.size ∧ StrsIn w' g xs ∧ Gr w w'
set_option maxHeartbeats 8000000 in
set_option maxRecDepth 100000 in
theorem words_any (s : Stp) (w : World) (hs : inS s) (hb : stpB s = true) (he : Env w) : Calls Tryd.prog 24 #[.agg #[.int .i64 s.k, .string s.a, .int .i64 s.n, .int .i64 s.o, .string s.u, .int .i64 s.y, .int .i64 s.v]] w fun e w' => WdR w (stW s) e w' := by
  have HA : Hid (∀ w', Calls Tryd.prog 32 #[.agg #[.int .i64 s.k, .string s.a, .int .i64 s.n, .int .i64 s.o, .string s.u, .int .i64 s.y, .int .i64 s.v]] w' fun e w2 => e = .returned (.bool (askB s)) ∧ Gr w' w2) := fun w' => asks_any s w' hs
  have HX0 := Lib.hid (AccAt.new w (.int .i64 s.k) (.string s.a) (.int .i64 s.n) (.int .i64 s.o) (.string s.u) (.int .i64 s.y) (.int .i64 s.v) 68 _ rfl)
  have HW : Hid (stW s = if askB s = true then [Df.wAsk, dg s.o, s.u, Df.wWait, dg s.v] else [wk s.k, s.a, dg s.n, Df.wTries, dg s.y]) := rfl
  have HE : Hid (Env w) := he
  cases hk : askB s with
  | true =>
    have hq := (Df.ask_iff s).1 hk
    have o1 := hq.2.2.2.2.2.1
    have o2 := hq.2.2.2.2.2.2.1
    have v1 := hq.2.2.2.2.2.2.2.1
    have v2 := hq.2.2.2.2.2.2.2.2
    clear hq
    have H1 : Hid (∀ w', Calls Tryd.prog 39 #[.int .i64 s.o] w' fun e w2 => e = .returned (.string (dg s.o)) ∧ Gr w' w2) := fun w' => itoa_any s.o w' o1 (by omega)
    have H2 : Hid (∀ w', Calls Tryd.prog 39 #[.int .i64 s.v] w' fun e w2 => e = .returned (.string (dg s.v)) ∧ Gr w' w2) := fun w' => itoa_any s.v w' (by omega) (by omega)
    rw [hk] at HA HW
    rw [if_pos rfl] at HW
    clear hk hs hb he o1 o2 v1 v2
    generalize stW s = WS at *
    generalize dg s.o = DO at *
    generalize dg s.v = DV at *
    go_enter Tryd.func24, Tryd.ntmps24
    go_wp2_with fail
    refine (HA.out _).mono ?_
    rintro e w1 ⟨rfl, hg⟩
    have HX1 := Lib.hid (HX0.out.gr hg)
    have HG1 : Hid (Gr w w1) := (Gr.refl _).alloc.trans hg
    obtain ⟨x0, x1, x2, x3, x4, x5, x6⟩ := HX1.out.cells
    have xl := HX1.out.lt
    clear hg
    go_upto_region 2 with fail
    refine wp_region_held_drew (S := (fun w' => Gr w1 w' ∧ w'.cell? ⟨w.heap.size, 0, none⟩ = some (.int .i64 s.k) ∧ w'.cell? ⟨w.heap.size, 1, none⟩ = some (.string s.a) ∧ w'.cell? ⟨w.heap.size, 2, none⟩ = some (.int .i64 s.n) ∧ w'.cell? ⟨w.heap.size, 3, none⟩ = some (.int .i64 s.o) ∧ w'.cell? ⟨w.heap.size, 4, none⟩ = some (.string s.u) ∧ w'.cell? ⟨w.heap.size, 5, none⟩ = some (.int .i64 s.y) ∧ w'.cell? ⟨w.heap.size, 6, none⟩ = some (.int .i64 s.v))) (by kernel_rfl) (by exact holdW HX1.out (by (repeat' (first | with_reducible exact Gr.refl _ | with_reducible refine Gr.set ?_ _ ?_ _ | with_reducible refine Gr.alloc ?_ | with_reducible refine Gr.drew ?_ | with_reducible refine Gr.trans ?_ (by assumption))) <;> (first | (simp; done) | (simp; omega) | omega))) (fun hHeld => ?_)
    refine take_yes 0 5 (v := ?_) rfl rfl (by kernel_rfl) (by kernel_rfl) (by kernel_rfl) (fun _ _ _ h => h) (by rfl) ?_ hHeld ?_
    rotate_left
    · (intro w hSw; (try dsimp only at hSw); go_simp; try with_reducible rfl)
    simp only [Act.put, List.setIfInBounds_toArray, List.set_cons_zero, List.set_cons_succ]
    refine take_yes 1 6 (v := ?_) rfl rfl (by kernel_rfl) (by kernel_rfl) (by kernel_rfl) (fun _ _ _ h => h) (by rfl) ?_ hHeld ?_
    rotate_left
    · (intro w hSw; (try dsimp only at hSw); go_simp; try with_reducible rfl)
    simp only [Act.put, List.setIfInBounds_toArray, List.set_cons_zero, List.set_cons_succ]
    refine take_yes 3 8 (v := ?_) rfl rfl (by kernel_rfl) (by kernel_rfl) (by kernel_rfl) (fun _ _ _ h => h) (by rfl) ?_ hHeld ?_
    rotate_left
    · (intro w hSw; (try dsimp only at hSw); go_simp; try with_reducible rfl)
    simp only [Act.put, List.setIfInBounds_toArray, List.set_cons_zero, List.set_cons_succ]
    refine take_yes 4 9 (v := ?_) rfl rfl (by kernel_rfl) (by kernel_rfl) (by kernel_rfl) (fun _ _ _ h => h) (by rfl) ?_ hHeld ?_
    rotate_left
    · (intro w hSw; (try dsimp only at hSw); go_simp; try with_reducible rfl)
    simp only [Act.put, List.setIfInBounds_toArray, List.set_cons_zero, List.set_cons_succ]
    refine take_yes 5 10 (v := ?_) rfl rfl (by kernel_rfl) (by kernel_rfl) (by kernel_rfl) (fun _ _ _ h => h) (by rfl) ?_ hHeld ?_
    rotate_left
    · (intro w hSw; (try dsimp only at hSw); go_simp; try with_reducible rfl)
    simp only [Act.put, List.setIfInBounds_toArray, List.set_cons_zero, List.set_cons_succ]
    refine take_yes 6 11 (v := ?_) rfl rfl (by kernel_rfl) (by kernel_rfl) (by kernel_rfl) (fun _ _ _ h => h) (by rfl) ?_ hHeld ?_
    rotate_left
    · (intro w hSw; (try dsimp only at hSw); go_simp; try with_reducible rfl)
    simp only [Act.put, List.setIfInBounds_toArray, List.set_cons_zero, List.set_cons_succ]
    refine wpAnyH_ready (rs := [2]) (by kernel_rfl) (by simp) (AllReadyH.cons rfl (fun K hK => ?_) AllReadyH.nil)
    go_simp
    refine (H1.out _).mono ?_; rintro e w2 ⟨rfl, hg2⟩
    (try go_wp2_with fail)
    refine hK.out _ _ (by exact holdW HX1.out (by (repeat' (first | with_reducible exact Gr.refl _ | with_reducible refine Gr.set ?_ _ ?_ _ | with_reducible refine Gr.alloc ?_ | with_reducible refine Gr.drew ?_ | with_reducible refine Gr.trans ?_ (by assumption))) <;> (first | (simp; done) | (simp; omega) | omega))) (fun hHeldN => ?_)
    clear hHeld hK K
    have hHeld := hHeldN
    clear hHeldN
    refine wpAnyH_ready (rs := [7]) (by kernel_rfl) (by simp) (AllReadyH.cons rfl (fun K hK => ?_) AllReadyH.nil)
    go_simp
    refine (H2.out _).mono ?_; rintro e w3 ⟨rfl, hg3⟩
    (try go_wp2_with fail)
    refine hK.out _ _ (by exact holdW HX1.out (by (repeat' (first | with_reducible exact Gr.refl _ | with_reducible refine Gr.set ?_ _ ?_ _ | with_reducible refine Gr.alloc ?_ | with_reducible refine Gr.drew ?_ | with_reducible refine Gr.trans ?_ (by assumption))) <;> (first | (simp; done) | (simp; omega) | omega))) (fun hHeldN => ?_)
    clear hHeld hK K
    have hHeld := hHeldN
    clear hHeldN
    refine wpAnyH_ready (rs := [8]) (by kernel_rfl) (by simp) (AllReadyH.cons rfl (fun K hK => ?_) AllReadyH.nil)
    go_simp
    refine hK.out _ _ (by exact holdW HX1.out (by (repeat' (first | with_reducible exact Gr.refl _ | with_reducible refine Gr.set ?_ _ ?_ _ | with_reducible refine Gr.alloc ?_ | with_reducible refine Gr.drew ?_ | with_reducible refine Gr.trans ?_ (by assumption))) <;> (first | (simp; done) | (simp; omega) | omega))) (fun hHeldN => ?_)
    clear hHeld hK K
    have hHeld := hHeldN
    clear hHeldN
    refine take_yes 9 2 (v := ?_) rfl rfl (by kernel_rfl) (by kernel_rfl) (by kernel_rfl) (fun _ _ _ h => h) (by rfl) ?_ hHeld ?_
    rotate_left
    · (intro w hSw; (try dsimp only at hSw); go_simp; try with_reducible rfl)
    simp only [Act.put, List.setIfInBounds_toArray, List.set_cons_zero, List.set_cons_succ]
    refine wpAnyH_done (by kernel_rfl) ?_ _
    go_wp2
    go_ret
    refine ⟨w3.heap.size, rfl, by simp, ?_, HG1.out.trans (by (repeat' (first | with_reducible exact Gr.refl _ | with_reducible refine Gr.set ?_ _ ?_ _ | with_reducible refine Gr.alloc ?_ | with_reducible refine Gr.drew ?_ | with_reducible refine Gr.trans ?_ (by assumption))) <;> (first | (simp; done) | (simp; omega) | omega))⟩
    rw [HW.out]
    exact strs_new w3 _ _ _ _ _ _
  | false =>
    have hob : ownB s = true := by unfold Df.stpB at hb; rw [hk] at hb; simpa using hb
    have hq := (Df.own_iff s).1 hob
    have ab := hq.2.1
    have y1 := hq.2.2.2.2.1
    have y2 := hq.2.2.2.2.2
    have n1 := ((Act.act_iff s.k s.a s.n).1 ab).2.2.1
    have n2 := ((Act.act_iff s.k s.a s.n).1 ab).2.2.2
    clear hq
    have H0 : Hid (∀ w', Calls Tryd.prog 40 #[.int .i64 s.k] w' fun e w2 => e = .returned (.string (wk s.k)) ∧ Gr w' w2) := fun w' => kindWord_any s.k w'
    have H1 : Hid (∀ w', Gr w w' → Calls Tryd.prog 41 #[.int .i64 s.n, .int .i64 10] w' fun e w2 => e = .returned (.string (dg s.n)) ∧ Gr w' w2) := fun w' g => formatInt_any s.n w' (by omega) (by omega) (he.gr g)
    have H2 : Hid (∀ w', Calls Tryd.prog 39 #[.int .i64 s.y] w' fun e w2 => e = .returned (.string (dg s.y)) ∧ Gr w' w2) := fun w' => itoa_any s.y w' (by omega) (by omega)
    rw [hk] at HA HW
    rw [if_neg (by decide)] at HW
    clear hk hs hb he hob ab n1 n2 y1 y2
    generalize stW s = WS at *
    generalize dg s.n = DN at *
    generalize dg s.y = DY at *
    generalize wk s.k = KW at *
    go_enter Tryd.func24, Tryd.ntmps24
    go_wp2_with fail
    refine (HA.out _).mono ?_
    rintro e w1 ⟨rfl, hg⟩
    have HX1 := Lib.hid (HX0.out.gr hg)
    have HG1 : Hid (Gr w w1) := (Gr.refl _).alloc.trans hg
    obtain ⟨x0, x1, x2, x3, x4, x5, x6⟩ := HX1.out.cells
    have xl := HX1.out.lt
    clear hg
    go_upto_region 3 with fail
    refine wp_region_held_drew (S := (fun w' => Gr w1 w' ∧ w'.cell? ⟨w.heap.size, 0, none⟩ = some (.int .i64 s.k) ∧ w'.cell? ⟨w.heap.size, 1, none⟩ = some (.string s.a) ∧ w'.cell? ⟨w.heap.size, 2, none⟩ = some (.int .i64 s.n) ∧ w'.cell? ⟨w.heap.size, 3, none⟩ = some (.int .i64 s.o) ∧ w'.cell? ⟨w.heap.size, 4, none⟩ = some (.string s.u) ∧ w'.cell? ⟨w.heap.size, 5, none⟩ = some (.int .i64 s.y) ∧ w'.cell? ⟨w.heap.size, 6, none⟩ = some (.int .i64 s.v))) (by kernel_rfl) (by exact holdW HX1.out (by (repeat' (first | with_reducible exact Gr.refl _ | with_reducible refine Gr.set ?_ _ ?_ _ | with_reducible refine Gr.alloc ?_ | with_reducible refine Gr.drew ?_ | with_reducible refine Gr.trans ?_ (by assumption))) <;> (first | (simp; done) | (simp; omega) | omega))) (fun hHeld => ?_)
    refine take_yes 0 14 (v := ?_) rfl rfl (by kernel_rfl) (by kernel_rfl) (by kernel_rfl) (fun _ _ _ h => h) (by rfl) ?_ hHeld ?_
    rotate_left
    · (intro w hSw; (try dsimp only at hSw); go_simp; try with_reducible rfl)
    simp only [Act.put, List.setIfInBounds_toArray, List.set_cons_zero, List.set_cons_succ]
    refine take_yes 1 15 (v := ?_) rfl rfl (by kernel_rfl) (by kernel_rfl) (by kernel_rfl) (fun _ _ _ h => h) (by rfl) ?_ hHeld ?_
    rotate_left
    · (intro w hSw; (try dsimp only at hSw); go_simp; try with_reducible rfl)
    simp only [Act.put, List.setIfInBounds_toArray, List.set_cons_zero, List.set_cons_succ]
    refine take_yes 2 16 (v := ?_) rfl rfl (by kernel_rfl) (by kernel_rfl) (by kernel_rfl) (fun _ _ _ h => h) (by rfl) ?_ hHeld ?_
    rotate_left
    · (intro w hSw; (try dsimp only at hSw); go_simp; try with_reducible rfl)
    simp only [Act.put, List.setIfInBounds_toArray, List.set_cons_zero, List.set_cons_succ]
    refine take_yes 4 18 (v := ?_) rfl rfl (by kernel_rfl) (by kernel_rfl) (by kernel_rfl) (fun _ _ _ h => h) (by rfl) ?_ hHeld ?_
    rotate_left
    · (intro w hSw; (try dsimp only at hSw); go_simp; try with_reducible rfl)
    simp only [Act.put, List.setIfInBounds_toArray, List.set_cons_zero, List.set_cons_succ]
    refine take_yes 5 19 (v := ?_) rfl rfl (by kernel_rfl) (by kernel_rfl) (by kernel_rfl) (fun _ _ _ h => h) (by rfl) ?_ hHeld ?_
    rotate_left
    · (intro w hSw; (try dsimp only at hSw); go_simp; try with_reducible rfl)
    simp only [Act.put, List.setIfInBounds_toArray, List.set_cons_zero, List.set_cons_succ]
    refine take_yes 6 20 (v := ?_) rfl rfl (by kernel_rfl) (by kernel_rfl) (by kernel_rfl) (fun _ _ _ h => h) (by rfl) ?_ hHeld ?_
    rotate_left
    · (intro w hSw; (try dsimp only at hSw); go_simp; try with_reducible rfl)
    simp only [Act.put, List.setIfInBounds_toArray, List.set_cons_zero, List.set_cons_succ]
    refine take_yes 7 21 (v := ?_) rfl rfl (by kernel_rfl) (by kernel_rfl) (by kernel_rfl) (fun _ _ _ h => h) (by rfl) ?_ hHeld ?_
    rotate_left
    · (intro w hSw; (try dsimp only at hSw); go_simp; try with_reducible rfl)
    simp only [Act.put, List.setIfInBounds_toArray, List.set_cons_zero, List.set_cons_succ]
    refine take_yes 8 22 (v := ?_) rfl rfl (by kernel_rfl) (by kernel_rfl) (by kernel_rfl) (fun _ _ _ h => h) (by rfl) ?_ hHeld ?_
    rotate_left
    · (intro w hSw; (try dsimp only at hSw); go_simp; try with_reducible rfl)
    simp only [Act.put, List.setIfInBounds_toArray, List.set_cons_zero, List.set_cons_succ]
    refine take_yes 9 23 (v := ?_) rfl rfl (by kernel_rfl) (by kernel_rfl) (by kernel_rfl) (fun _ _ _ h => h) (by rfl) ?_ hHeld ?_
    rotate_left
    · (intro w hSw; (try dsimp only at hSw); go_simp; try with_reducible rfl)
    simp only [Act.put, List.setIfInBounds_toArray, List.set_cons_zero, List.set_cons_succ]
    refine take_yes 11 25 (v := ?_) rfl rfl (by kernel_rfl) (by kernel_rfl) (by kernel_rfl) (fun _ _ _ h => h) (by rfl) ?_ hHeld ?_
    rotate_left
    · (intro w hSw; (try dsimp only at hSw); go_simp; try with_reducible rfl)
    simp only [Act.put, List.setIfInBounds_toArray, List.set_cons_zero, List.set_cons_succ]
    refine take_yes 12 26 (v := ?_) rfl rfl (by kernel_rfl) (by kernel_rfl) (by kernel_rfl) (fun _ _ _ h => h) (by rfl) ?_ hHeld ?_
    rotate_left
    · (intro w hSw; (try dsimp only at hSw); go_simp; try with_reducible rfl)
    simp only [Act.put, List.setIfInBounds_toArray, List.set_cons_zero, List.set_cons_succ]
    refine wpAnyH_ready (rs := [3]) (by kernel_rfl) (by simp) (AllReadyH.cons rfl (fun K hK => ?_) AllReadyH.nil)
    go_simp
    refine (H0.out _).mono ?_; rintro e w2 ⟨rfl, hg2⟩
    (try go_wp2_with fail)
    refine hK.out _ _ (by exact holdW HX1.out (by (repeat' (first | with_reducible exact Gr.refl _ | with_reducible refine Gr.set ?_ _ ?_ _ | with_reducible refine Gr.alloc ?_ | with_reducible refine Gr.drew ?_ | with_reducible refine Gr.trans ?_ (by assumption))) <;> (first | (simp; done) | (simp; omega) | omega))) (fun hHeldN => ?_)
    clear hHeld hK K
    have hHeld := hHeldN
    clear hHeldN
    refine wpAnyH_ready (rs := [10]) (by kernel_rfl) (by simp) (AllReadyH.cons rfl (fun K hK => ?_) AllReadyH.nil)
    go_simp
    refine (H1.out _ (HG1.out.trans (by (repeat' (first | with_reducible exact Gr.refl _ | with_reducible refine Gr.set ?_ _ ?_ _ | with_reducible refine Gr.alloc ?_ | with_reducible refine Gr.drew ?_ | with_reducible refine Gr.trans ?_ (by assumption))) <;> (first | (simp; done) | (simp; omega) | omega)))).mono ?_; rintro e w3 ⟨rfl, hg3⟩
    (try go_wp2_with fail)
    refine hK.out _ _ (by exact holdW HX1.out (by (repeat' (first | with_reducible exact Gr.refl _ | with_reducible refine Gr.set ?_ _ ?_ _ | with_reducible refine Gr.alloc ?_ | with_reducible refine Gr.drew ?_ | with_reducible refine Gr.trans ?_ (by assumption))) <;> (first | (simp; done) | (simp; omega) | omega))) (fun hHeldN => ?_)
    clear hHeld hK K
    have hHeld := hHeldN
    clear hHeldN
    refine wpAnyH_ready (rs := [13]) (by kernel_rfl) (by simp) (AllReadyH.cons rfl (fun K hK => ?_) AllReadyH.nil)
    go_simp
    refine (H2.out _).mono ?_; rintro e w4 ⟨rfl, hg4⟩
    (try go_wp2_with fail)
    refine hK.out _ _ (by exact holdW HX1.out (by (repeat' (first | with_reducible exact Gr.refl _ | with_reducible refine Gr.set ?_ _ ?_ _ | with_reducible refine Gr.alloc ?_ | with_reducible refine Gr.drew ?_ | with_reducible refine Gr.trans ?_ (by assumption))) <;> (first | (simp; done) | (simp; omega) | omega))) (fun hHeldN => ?_)
    clear hHeld hK K
    have hHeld := hHeldN
    clear hHeldN
    refine wpAnyH_ready (rs := [14]) (by kernel_rfl) (by simp) (AllReadyH.cons rfl (fun K hK => ?_) AllReadyH.nil)
    go_simp
    refine hK.out _ _ (by exact holdW HX1.out (by (repeat' (first | with_reducible exact Gr.refl _ | with_reducible refine Gr.set ?_ _ ?_ _ | with_reducible refine Gr.alloc ?_ | with_reducible refine Gr.drew ?_ | with_reducible refine Gr.trans ?_ (by assumption))) <;> (first | (simp; done) | (simp; omega) | omega))) (fun hHeldN => ?_)
    clear hHeld hK K
    have hHeld := hHeldN
    clear hHeldN
    refine take_yes 15 2 (v := ?_) rfl rfl (by kernel_rfl) (by kernel_rfl) (by kernel_rfl) (fun _ _ _ h => h) (by rfl) ?_ hHeld ?_
    rotate_left
    · (intro w hSw; (try dsimp only at hSw); go_simp; try with_reducible rfl)
    simp only [Act.put, List.setIfInBounds_toArray, List.set_cons_zero, List.set_cons_succ]
    refine wpAnyH_done (by kernel_rfl) ?_ _
    go_wp2
    go_ret
    refine ⟨w4.heap.size, rfl, by simp, ?_, HG1.out.trans (by (repeat' (first | with_reducible exact Gr.refl _ | with_reducible refine Gr.set ?_ _ ?_ _ | with_reducible refine Gr.alloc ?_ | with_reducible refine Gr.drew ?_ | with_reducible refine Gr.trans ?_ (by assumption))) <;> (first | (simp; done) | (simp; omega) | omega))⟩
    rw [HW.out]
    exact strs_new w4 _ _ _ _ _ _
end Go.Proofs.YtfobfpigbfepoaaDoor
namespace Go.Proofs.YtfobfpigbfepoaaDoor
open Go.RowKit
open Df (Stp ownB askB stpB defB chE wk)
def jn (s : Stp) : List UInt8 := Lib.join ((stW s).map (·.data.toList)) [32]
theorem join5 (a b c d e : List UInt8) : Lib.join [a, b, c, d, e] [32] = a ++ 32 :: (b ++ 32 :: (c ++ 32 :: (d ++ 32 :: e))) := by
  simp [Lib.join, List.intercalate]
theorem stW_len (s : Stp) : (stW s).length = 5 := by unfold stW; split <;> rfl
theorem jn_stT (s : Stp) : stT s = [32, 32] ++ jn s ++ [59, 10] := by
  unfold stT jn
  have h := stW_len s
  generalize stW s = xs at *
  match xs, h with
  | [a, b, c, d, e], _ => simp [ln, join5]
def shE (nm : ByteArray) (L : List Stp) : ByteArray := if defB nm L = true then ⟨(shT nm L).toArray⟩ else ⟨#[]⟩
theorem jn_len {s : Stp} (h : stpB s = true) : (jn s).length ≤ 60 := by
  have h1 := stT_len h
  rw [jn_stT] at h1
  simp only [List.length_append, List.length_cons, List.length_nil] at h1
  omega
theorem join_any (s : Stp) (g : Nat) (w : World) (h : stpB s = true) (hg : g < w.heap.size) (hc : StrsIn w g (stW s)) : Calls Tryd.prog 23 #[.slice (some ⟨g, 0, none⟩) 5 5, .string ⟨#[32]⟩] w fun e w' => e = .returned (.string ⟨(jn s).toArray⟩) ∧ Gr w w' := by
  have hl := jn_len h
  have := Tryd.strings_Join g 0 5 (stW s) ⟨#[32]⟩ w hc hg (by rw [stW_len]; omega) (by rw [stW_len]; omega) (by show (jn s).length ≤ _; omega)
  rw [stW_len] at this
  refine this.mono ?_
  rintro e w' ⟨rfl, hb⟩
  exact ⟨rfl, ⟨hb⟩⟩
theorem stT_take (L : List Stp) (k : Nat) (h : k < L.length) : (L.take (k + 1)).flatMap stT = (L.take k).flatMap stT ++ stT L[k] := by
  rw [List.take_succ_eq_append_getElem h, List.flatMap_append]; simp
set_option maxHeartbeats 8000000 in
set_option maxRecDepth 100000 in
theorem dShow_any (nm : ByteArray) (L : List Stp) (ad : Option Addr) (cap : Nat) (w : World) (hL : StpsAt w ad L) (hs : nm.size ≤ 9223372036854775807) (hn : L.length ≤ 9223372036854775807) (hz : ∀ s ∈ L, inS s) (he : Env w) :
    Calls Tryd.prog 12 #[.agg #[.string nm, .slice ad L.length cap]] w fun e w' => e = .returned (.tuple #[.string (shE nm L), .int .i64 (chE nm L)]) ∧ Gr w w' := by
  have HC : Hid (∀ w', Gr w w' → Calls Tryd.prog 20 #[.agg #[.string nm, .slice ad L.length cap]] w' fun e w2 => e = .returned (.int .i64 (chE nm L)) ∧ Gr w' w2) := fun w' g => dCheck_any nm L ad cap w' (hL.gr g) hs hn hz
  have HX0 := Lib.hid (TwoAt.new w (.string nm) (.slice ad L.length cap) 37 _ rfl)
  cases hd : defB nm L with
  | false =>
    have e1 : shE nm L = ⟨#[]⟩ := by unfold shE; rw [hd]; rfl
    have e2 : chE nm L = 90 := Df.ch_no hd
    rw [e1, e2]
    rw [e2] at HC
    clear e1 e2 hd hL hz he
    go_enter Tryd.func12, Tryd.ntmps12
    go_wp2_with fail
    refine (HC.out _ (by repeat (first | exact Gr.refl _ | refine Gr.alloc ?_ | refine Gr.drew ?_ | refine Gr.trans ?_ (by assumption)))).mono ?_
    rintro e w1 ⟨rfl, hg⟩
    go_wp2
    go_ret2
    exact ⟨rfl, (Gr.refl _).alloc.trans hg⟩
  | true =>
    have e1 : shE nm L = ⟨(shT nm L).toArray⟩ := by unfold shE; rw [hd]; rfl
    have e2 : chE nm L = 0 := Df.ch_yes hd
    rw [e1, e2]
    rw [e2] at HC
    have hsl := shT_len hd
    obtain ⟨h1, h2, h8, h4⟩ := (Df.def_iff nm L).1 hd
    have hn16 := name_le h1
    obtain ⟨nl, hnl⟩ : ∃ l : List UInt8, l = nm.data.toList := ⟨_, rfl⟩
    have hnm : nm = ⟨nl.toArray⟩ := by rw [hnl, Lex.bytes_list]
    have hnll : nl.length ≤ 16 := by rw [hnl]; simpa using hn16
    have HT : Hid (shT nm L = [115, 97, 103, 97, 32] ++ nl ++ [32, 123, 10] ++ L.flatMap stT ++ [125, 10]) := by show _ = _; unfold shT shH; rw [hnl]; simp
    have HW : Hid (∀ (j : Nat) (h : j < L.length) (w' : World), Gr w w' → Calls Tryd.prog 24 #[.agg #[.int .i64 L[j].k, .string L[j].a, .int .i64 L[j].n, .int .i64 L[j].o, .string L[j].u, .int .i64 L[j].y, .int .i64 L[j].v]] w' fun e w2 => WdR w' (stW L[j]) e w2) := fun j h w' g => words_any L[j] w' (hz _ (List.getElem_mem h)) (h4 _ (List.getElem_mem h)) (he.gr g)
    have HJ : Hid (∀ (j : Nat) (h : j < L.length) (g : Nat) (w' : World), g < w'.heap.size → StrsIn w' g (stW L[j]) → Calls Tryd.prog 23 #[.slice (some ⟨g, 0, none⟩) 5 5, .string ⟨#[32]⟩] w' fun e w2 => e = .returned (.string ⟨(jn L[j]).toArray⟩) ∧ Gr w' w2) := fun j h g w' hg hc => join_any L[j] g w' (h4 _ (List.getElem_mem h)) hg hc
    have HB : Hid (∀ k, k ≤ L.length → ((L.take k).flatMap stT).length ≤ 480) := by
      intro k hk
      have := stTs_len (L.take k) (fun s hs => h4 s (List.mem_of_mem_take hs))
      rw [List.length_take] at this
      omega
    have HL : Hid (StpsAt w ad L) := hL
    have HP : Hid (∀ s ∈ L, stpB s = true) := h4
    generalize shT nm L = RT at *
    subst hnm
    have a1 := add_lists [115, 97, 103, 97, 32] nl (by simp; omega)
    have a2 := add_lists ([115, 97, 103, 97, 32] ++ nl) [32, 123, 10] (by simp; omega)
    have hH : ([115, 97, 103, 97, 32] ++ nl ++ [32, 123, 10]).length ≤ 24 := by simp; omega
    generalize hHd : [115, 97, 103, 97, 32] ++ nl ++ [32, 123, 10] = HD at *
    generalize [115, 97, 103, 97, 32] ++ nl = t1 at *
    clear hHd hd hL hz he e1 e2 hsl h1 h4 hn16 hnl
    go_enter Tryd.func12, Tryd.ntmps12
    go_wp2_with fail
    refine (HC.out _ (by repeat (first | exact Gr.refl _ | refine Gr.alloc ?_ | refine Gr.drew ?_ | refine Gr.trans ?_ (by assumption)))).mono ?_
    rintro e w1 ⟨rfl, hg⟩
    have HG1 : Hid (Gr w w1) := (Gr.refl _).alloc.trans hg
    obtain ⟨x0, x1, _, _, xl⟩ := HX0.out.gr hg
    clear hg
    go_wp2
    go_loopw [5, 20] (fun sv iv wr => ∃ k : Nat, k ≤ L.length ∧ iv = .int .i64 (k : Int) ∧ sv = .string ⟨(HD ++ (L.take k).flatMap stT).toArray⟩ ∧ Gr w wr) (fun _ iv _ => L.length - (intOf iv).toNat)
    case atStart => exact ⟨0, by omega, rfl, by simp, HG1.out⟩
    case round =>
      obtain ⟨k, hk, rfl, rfl, hg⟩ := hrel
      have HG : Hid (Gr w wr) := hg
      clear hg x0 x1 xl
      have hbk := HB.out k hk
      by_cases hlt : k < L.length
      · obtain ⟨b, off, rfl, hb, x0, x1, x2, x3, x4, x5, x6⟩ := StpsAt.at (HL.out.gr HG.out) k hlt
        have HB0 := Lib.hid (AccAt.new wr (.int .i64 L[k].k) (.string L[k].a) (.int .i64 L[k].n) (.int .i64 L[k].o) (.string L[k].u) (.int .i64 L[k].y) (.int .i64 L[k].v) 68 _ rfl)
        have HWk : Hid (∀ w', Gr w w' → Calls Tryd.prog 24 #[.agg #[.int .i64 L[k].k, .string L[k].a, .int .i64 L[k].n, .int .i64 L[k].o, .string L[k].u, .int .i64 L[k].y, .int .i64 L[k].v]] w' fun e w2 => WdR w' (stW L[k]) e w2) := HW.out k hlt
        have HJk := Lib.hid (HJ.out k hlt)
        have hjl := jn_len (HP.out _ (List.getElem_mem hlt))
        have HFT : Hid ((L.take (k + 1)).flatMap stT = (L.take k).flatMap stT ++ ([32, 32] ++ jn L[k] ++ [59, 10])) := by show _ = _; rw [stT_take L k hlt, jn_stT]
        have a3 := add_lists [32, 32] (jn L[k]) (by simp; omega)
        have a4 := add_lists ([32, 32] ++ jn L[k]) [59, 10] (by simp; omega)
        have a5 := add_lists (HD ++ (L.take k).flatMap stT) ([32, 32] ++ jn L[k] ++ [59, 10]) (by simp only [List.length_append, List.length_cons, List.length_nil] at hH ⊢; omega)
        have HFT2 : Hid (HD ++ (L.take k).flatMap stT ++ ([32, 32] ++ jn L[k] ++ [59, 10]) = HD ++ (L.take (k + 1)).flatMap stT) := by show _ = _; rw [HFT.out, List.append_assoc]
        generalize HD ++ (L.take k).flatMap stT ++ ([32, 32] ++ jn L[k] ++ [59, 10]) = t5 at *
        generalize [32, 32] ++ jn L[k] ++ [59, 10] = t4 at *
        generalize [32, 32] ++ jn L[k] = t3 at *
        generalize HD ++ (L.take k).flatMap stT = t0 at *
        generalize jn L[k] = jk at *
        generalize stW L[k] = sk at *
        generalize L[k].k = y0 at *
        generalize L[k].a = y1 at *
        generalize L[k].n = y2 at *
        generalize L[k].o = y3 at *
        generalize L[k].u = y4 at *
        generalize L[k].y = y5 at *
        generalize L[k].v = y6 at *
        clear a1 a2 hbk hjl
        go_wp2_with fail
        refine (HWk.out _ HG.out.alloc).mono ?_
        rintro e w2 ⟨g, rfl, hgl, hst, hg2⟩
        have HG2 : Hid (Gr w w2) := HG.out.alloc.trans hg2
        have HS2 := Lib.hid hst
        clear hg2 hst x0 x1 x2 x3 x4 x5 x6
        go_wp2_with fail
        refine (HJk.out g _ hgl HS2.out).mono ?_
        rintro e w3 ⟨rfl, hg3⟩
        have HG3 : Hid (Gr w w3) := HG2.out.trans hg3
        clear hg3
        go_wp2
        go_roundw
        case rel => exact ⟨k + 1, by omega, by go_num, by rw [← HFT2.out], HG3.out⟩
        case measure => simp [intOf]; omega
      · obtain rfl : k = L.length := by omega
        rw [List.take_length]
        rw [List.take_length] at hbk
        have a6 := add_lists (HD ++ L.flatMap stT) [125, 10] (by simp only [List.length_append, List.length_cons, List.length_nil] at hH ⊢; omega)
        have HTT : Hid (RT = HD ++ L.flatMap stT ++ [125, 10]) := HT.out
        generalize HD ++ L.flatMap stT ++ [125, 10] = t7 at *
        generalize HD ++ L.flatMap stT = t6 at *
        go_wp2
        go_ret2
        exact ⟨by rw [HTT.out]; rfl, HG.out⟩
end Go.Proofs.YtfobfpigbfepoaaDoor
namespace Go.Proofs
open Go.Shelf
def Tryd.wr_ren : Go.Shelf.Ren := ⟨fun | 166 => 13 | 240 => 25 | 276 => 42 | n => n, fun | 0 => 0 | 3 => 3 | 4 => 4 | 5 => 5 | 9 => 9 | 20 => 20 | 70 => 42 | 72 => 45 | 37 => 43 | 75 => 48 | 80 => 52 | 164 => 97 | n => n, fun | n => n⟩
theorem Tryd.wr_lays : Go.Proofs.Lays.n166 Tryd.prog Tryd.wr_ren := {
  mixed := by kernel_rfl
  f166 := Tryd.func13.trans (congrArg some (by kernel_rfl))
  f240 := Tryd.func25.trans (congrArg some (by kernel_rfl))
  f276 := Tryd.func42.trans (congrArg some (by kernel_rfl))
  t0 := Tryd.underlying0
  a0 := Tryd.isAgg0
  z0 := Tryd.sizeOf0
  v0 := Tryd.zeroValue0
  t3 := Tryd.underlying3
  a3 := Tryd.isAgg3
  z3 := Tryd.sizeOf3
  v3 := Tryd.zeroValue3
  t4 := Tryd.underlying4
  a4 := Tryd.isAgg4
  z4 := Tryd.sizeOf4
  v4 := Tryd.zeroValue4
  t9 := Tryd.underlying9
  a9 := Tryd.isAgg9
  z9 := Tryd.sizeOf9
  v9 := Tryd.zeroValue9
  t20 := Tryd.underlying20
  a20 := Tryd.isAgg20
  z20 := Tryd.sizeOf20
  v20 := Tryd.zeroValue20
  t37 := Tryd.underlying43
  a37 := Tryd.isAgg43
  z37 := Tryd.sizeOf43
  v37 := Tryd.zeroValue43
  t70 := Tryd.underlying42
  a70 := Tryd.isAgg42
  z70 := Tryd.sizeOf42
  v70 := Tryd.zeroValue42
  t72 := Tryd.underlying45
  a72 := Tryd.isAgg45
  z72 := Tryd.sizeOf45
  v72 := Tryd.zeroValue45
  t75 := Tryd.underlying48
  a75 := Tryd.isAgg48
  z75 := Tryd.sizeOf48
  v75 := Tryd.zeroValue48
  t164 := Tryd.underlying97
  a164 := Tryd.isAgg97
  z164 := Tryd.sizeOf97
  v164 := Tryd.zeroValue97 }
theorem Tryd.wr_extra : Builder.Extra Tryd.prog Tryd.wr_ren := {
  sizeBuilder := by kernel_rfl
  liesBuilder := by kernel_rfl
  t5 := Tryd.underlying5
  a5 := Tryd.isAgg5
  z5 := Tryd.sizeOf5
  v5 := Tryd.zeroValue5
  infoByte := by kernel_rfl
  cellsByte := by kernel_rfl
  sizeByte := by kernel_rfl
  neB5 := by decide }
open Go.RowKit in
theorem Tryd.writeString (B b : Nat) (bs : List Value) (s : ByteArray) (w : World) (h : Lib.IsBuilder 45 5 B b bs w) (hlen : bs.length + s.size ≤ 140737488355328) (hBw : B ≤ w.heap.size) :
    Calls Tryd.prog 13 #[.pointer (some ⟨b, 0, none⟩), .string s] w fun e w' => e = .returned (.tuple #[.int .i64 s.size, .nilIface]) ∧ (Lib.BuilderAt 45 5 B b (.pointer (some ⟨b, 0, none⟩)) (bs ++ Lib.strCells s) w' ∧ Below B w w') := Any.Builder_WriteString Tryd.wr_lays Tryd.wr_extra B b bs s w h hlen hBw
end Go.Proofs
namespace Go.Proofs.YtfobfpigbfepoaaDoor
open Go.RowKit
theorem Gr.builderAt {T e : TypeId} {B b : Nat} {p : Value} {bs : List Value} {w w' : World} (g : Gr w w') (h : Lib.BuilderAt T e B b p bs w) : Lib.BuilderAt T e B b p bs w' := by
  have hlt := h.lt
  obtain ⟨hB, v, hb, hown, hne⟩ := h
  refine ⟨hB, v, (g.below.block b hlt).trans hb, hown.kept g.grownBy ?_, hne⟩
  cases hv : v.ownBlock with
  | none => exact Or.inl rfl
  | some q => exact Or.inr (by simp)
theorem Gr.isBuilder {T e : TypeId} {B b : Nat} {bs : List Value} {w w' : World} (g : Gr w w') (h : Lib.IsBuilder T e B b bs w) : Lib.IsBuilder T e B b bs w' :=
  h.elim (fun h => Or.inl (g.builderAt h)) (fun h => Or.inr (g.builderAt h))
def bkT (D : List Bk.Dn) : List UInt8 := D.flatMap (fun d => shT d.nm d.L)
def bsZ (D : List Bk.Dn) : Int := if Bk.mayB D = true then (if 2000 < (bkT D).length then 3 else 0) else 2
def bsT (D : List Bk.Dn) : ByteArray := if bsZ D = 0 then ⟨(bkT D).toArray⟩ else ⟨#[]⟩
theorem bkT_take (D : List Bk.Dn) (k : Nat) (h : k < D.length) : bkT (D.take (k + 1)) = bkT (D.take k) ++ shT D[k].nm D[k].L := by
  unfold bkT; rw [List.take_succ_eq_append_getElem h, List.flatMap_append]; simp
theorem bkT_len : ∀ (D : List Bk.Dn), (∀ d ∈ D, Bk.okB d = true) → (bkT D).length ≤ 600 * D.length
  | [], _ => by simp [bkT]
  | d :: D, h => by
    have h1 := shT_len (nm := d.nm) (L := d.L) (h d (by simp))
    have h2 := bkT_len D (fun x hx => h x (by simp [hx]))
    unfold bkT at h2 ⊢
    rw [List.flatMap_cons, List.length_append, List.length_cons]; omega
set_option maxHeartbeats 4000000 in
set_option maxRecDepth 100000 in
theorem show10_any (D : List Dm) (ad : Option Addr) (cap : Nat) (w : World) (hB : BkAt w ad D) (hn : D.length ≤ 9223372036854775807) (he : Env w) :
    Calls Tryd.prog 6 #[.slice ad D.length cap] w fun e w' => e = .returned (.tuple #[.string (bsT (dns D)), .int .i64 (bsZ (dns D))]) ∧ Gr w w' := by
  have HMa : Hid (∀ w', Gr w w' → Calls Tryd.prog 9 #[.slice ad D.length cap] w' fun e w2 => e = .returned (.int .i64 (Bk.mayE (dns D))) ∧ Gr w' w2) := fun w' g => may_any D ad cap w' (hB.gr g) hn
  cases hmay : Bk.mayB (dns D) with
  | false =>
    have HZ : Hid (bsZ (dns D) = 2) := by show _ = _; unfold bsZ; rw [hmay]; rfl
    have HT : Hid (bsT (dns D) = ⟨#[]⟩) := by show _ = _; unfold bsT; rw [HZ.out]; rfl
    rw [Bk.may_not hmay] at HMa
    clear hmay hB he
    go_enter Tryd.func6, Tryd.ntmps6
    go_wp2_with fail
    refine (HMa.out _ (by repeat (first | exact Gr.refl _ | refine Gr.alloc ?_ | refine Gr.drew ?_ | refine Gr.trans ?_ (by assumption)))).mono ?_
    rintro e w1 ⟨rfl, hg1⟩
    go_wp2
    go_ret2
    rw [HZ.out, HT.out]
    exact ⟨rfl, (by (repeat' (first | with_reducible exact Gr.refl _ | with_reducible refine Gr.set ?_ _ ?_ _ | with_reducible refine Gr.alloc ?_ | with_reducible refine Gr.drew ?_ | with_reducible refine Gr.trans ?_ (by assumption))) <;> (first | (simp; done) | (simp; omega) | omega))⟩
  | true =>
    obtain ⟨m1, m2, _⟩ := (Bk.may_iff _).1 hmay
    rw [dns_len] at m1
    have HSh : Hid (∀ (j : Nat) (h : j < D.length) w', Gr w w' → Calls Tryd.prog 12 #[.agg #[.string D[j].nm, .slice D[j].ad D[j].L.length D[j].cap]] w' fun e w2 => e = .returned (.tuple #[.string ⟨(shT D[j].nm D[j].L).toArray⟩, .int .i64 0]) ∧ Gr w' w2) := fun j h w' g => by
      have hok : Df.defB D[j].nm D[j].L = true := m2 D[j].dn (List.mem_map.2 ⟨_, List.getElem_mem h, rfl⟩)
      have hr := hB.rng _ (List.getElem_mem h)
      have := dShow_any D[j].nm D[j].L D[j].ad D[j].cap w' ((hB.gr g).st _ (List.getElem_mem h)) hr.1 hr.2.1 hr.2.2 (he.gr g)
      rw [show shE D[j].nm D[j].L = ⟨(shT D[j].nm D[j].L).toArray⟩ by unfold shE; rw [if_pos hok], Df.ch_yes hok] at this
      exact this
    have HLen : Hid (∀ k, (bkT ((dns D).take k)).length ≤ 4800) := by
      intro k
      have := bkT_len ((dns D).take k) (fun d hd => m2 d (List.mem_of_mem_take hd))
      have hl : ((dns D).take k).length ≤ 8 := by rw [List.length_take, dns_len]; omega
      omega
    have HSl : Hid (∀ (j : Nat) (h : j < D.length), (shT D[j].nm D[j].L).length ≤ 600) := fun j h => shT_len (m2 D[j].dn (List.mem_map.2 ⟨_, List.getElem_mem h, rfl⟩))
    have HTk : Hid (∀ (j : Nat) (h : j < D.length), bkT ((dns D).take (j + 1)) = bkT ((dns D).take j) ++ shT D[j].nm D[j].L) := by
      intro j h
      have := bkT_take (dns D) j (by rw [dns_len]; exact h)
      rw [dns_get D j h] at this
      exact this
    have HR := Lib.hid hB.row
    rw [Bk.may_ok hmay] at HMa
    have HZ : Hid (bsZ (dns D) = if 2000 < (bkT (dns D)).length then 3 else 0) := by show _ = _; unfold bsZ; rw [if_pos hmay]
    clear hmay hB he m2
    go_enter Tryd.func6, Tryd.ntmps6
    go_wp2_with fail
    refine (HMa.out _ (by repeat (first | exact Gr.refl _ | refine Gr.alloc ?_ | refine Gr.drew ?_ | refine Gr.trans ?_ (by assumption)))).mono ?_
    rintro e w1 ⟨rfl, hg1⟩
    have HG1 : Hid (Gr w w1) := (by repeat (first | exact Gr.refl _ | refine Gr.alloc ?_ | refine Gr.drew ?_ | refine Gr.trans ?_ (by assumption)))
    have hb0 : Lib.IsBuilder 45 5 w1.heap.size w1.heap.size [] (w1.alloc (.cells #[.pointer none, .slice none 0 0] 45)) := Lib.fresh_isBuilder 45 5 w1
    have HB0 := Lib.hid hb0
    clear hg1 HMa hb0
    go_wp2
    go_loopw [17] (fun s17 wr => ∃ k : Nat, s17 = .int .i64 k ∧ k ≤ D.length ∧ Lib.IsBuilder 45 5 w1.heap.size w1.heap.size (Lib.byteCells (bkT ((dns D).take k))) wr ∧ Gr w1 wr) (fun s17 _ => D.length - (intOf s17).toNat)
    case atStart => exact ⟨0, rfl, Nat.zero_le _, by rw [List.take_zero]; exact HB0.out, (Gr.refl _).alloc⟩
    case round =>
      clear HB0
      obtain ⟨k, rfl, hk, hbd, hg⟩ := hrel
      by_cases hlt : k < D.length
      · obtain ⟨b, off, rfl, hb, d0, d1⟩ := DmsAt.at HR.out k hlt
        have d0 := (HG1.out.trans hg).keep d0
        have d1 := (HG1.out.trans hg).keep d1
        have hbw := Nat.lt_of_lt_of_le hb (HG1.out.trans hg).size
        have hki : (k : Int) < (D.length : Int) := by omega
        have HX := Lib.hid (HSh.out k hlt)
        have HT1 := Lib.hid (HTk.out k hlt)
        have hl6 := HSl.out k hlt
        have hl8 := HLen.out k
        have HBd := Lib.hid hbd
        have HG : Hid (Gr w1 wr) := hg
        clear hbd hg
        generalize D[k] = x at *
        obtain ⟨xn, xa, xc, xl⟩ := x
        dsimp only at *
        generalize shT xn xl = tx at *
        generalize hacc : bkT ((dns D).take k) = acc at *
        go_wp2_with fail
        refine (HX.out _ ((HG1.out.trans HG.out).trans (by repeat (first | exact Gr.refl _ | refine Gr.alloc ?_ | refine Gr.drew ?_ | refine Gr.trans ?_ (by assumption))))).mono ?_
        rintro e w2 ⟨rfl, hg2⟩
        have gw2 : Gr wr w2 := (by repeat (first | exact Gr.refl _ | refine Gr.alloc ?_ | refine Gr.drew ?_ | refine Gr.trans ?_ (by assumption)))
        have hbd2 := gw2.isBuilder HBd.out
        have HG2 : Hid (Gr w1 w2) := HG.out.trans gw2
        have hlc : (Lib.byteCells acc).length + (⟨tx.toArray⟩ : ByteArray).size ≤ 140737488355328 := by
          rw [Lib.byteCells_length]; show acc.length + tx.toArray.size ≤ _; rw [List.size_toArray]; omega
        have HWs := Lib.hid (Tryd.writeString w1.heap.size w1.heap.size (Lib.byteCells acc) ⟨tx.toArray⟩ w2 hbd2 hlc HG2.out.size)
        clear hbd2 hlc hg2 gw2
        go_wp2_with fail
        refine HWs.out.mono ?_
        rintro e w3 ⟨rfl, h3, b3⟩
        rw [Lib.strCells_eq, ← Lib.byteCells_append, show (⟨tx.toArray⟩ : ByteArray).data.toList = tx by simp, ← HT1.out] at h3
        have HB3 : Hid (Lib.IsBuilder 45 5 w1.heap.size w1.heap.size (Lib.byteCells (bkT ((dns D).take (k + 1)))) w3) := Or.inr h3
        have HG3 : Hid (Gr w1 w3) := ⟨HG2.out.below.trans b3⟩
        clear h3 b3
        go_wp2
        go_roundw
        case rel => exact ⟨k + 1, by go_num, by omega, HB3.out, HG3.out⟩
        case measure => simp [intOf]; omega
      · have hge : ¬ ((k : Int) < (D.length : Int)) := by omega
        have hall : (dns D).take k = dns D := List.take_of_length_le (by rw [dns_len]; omega)
        have hl8 := HLen.out k
        rw [hall] at hbd hl8
        have HG : Hid (Gr w1 wr) := hg
        have HBd := Lib.hid hbd
        have HLn := Lib.hid (Tryd.Builder_Len w1.heap.size w1.heap.size _ wr hbd)
        rw [Lib.byteCells_length] at HLn
        clear hg hbd hall HLen HTk HSl HSh
        by_cases hbig : 2000 < (bkT (dns D)).length
        · have HZ3 : Hid (bsZ (dns D) = 3) := by show _ = _; rw [HZ.out, if_pos hbig]
          have HT3 : Hid (bsT (dns D) = ⟨#[]⟩) := by show _ = _; unfold bsT; rw [HZ3.out]; rfl
          have hbi : (2000 : Int) < ((bkT (dns D)).length : Int) := by omega
          clear HZ
          generalize (bkT (dns D)).length = n at *
          go_wp2_with fail
          refine HLn.out.mono ?_
          rintro e w2 ⟨rfl, hw2⟩
          obtain rfl := hw2.symm
          go_wp2
          go_ret2
          rw [HZ3.out, HT3.out]
          exact ⟨rfl, HG1.out.trans HG.out⟩
        · have HZ3 : Hid (bsZ (dns D) = 0) := by show _ = _; rw [HZ.out, if_neg hbig]
          have HT3 : Hid (bsT (dns D) = ⟨(bkT (dns D)).toArray⟩) := by show _ = _; unfold bsT; rw [HZ3.out]; rfl
          have hbi : ¬ (2000 : Int) < ((bkT (dns D)).length : Int) := by omega
          have HSt := Lib.hid (Tryd.Builder_String_any w1.heap.size w1.heap.size _ wr HBd.out HG.out.size)
          clear HZ
          go_wp2_with fail
          refine HLn.out.mono ?_
          rintro e w2 ⟨rfl, hw2⟩
          obtain rfl := hw2.symm
          go_wp2_with fail
          refine HSt.out.mono ?_
          rintro e w3 ⟨rfl, hb3⟩
          have HG3 : Hid (Gr w1 w3) := ⟨HG.out.below.trans hb3⟩
          go_wp2
          go_ret2
          rw [HZ3.out, HT3.out]
          exact ⟨rfl, HG1.out.trans HG3.out⟩
end Go.Proofs.YtfobfpigbfepoaaDoor
