/- For every input the law LedgerMays answers true: any ledger may be, or not, and says of accounts and keys, as the document says. -/
import Derived.Test.YtjkaegpgjphlcaaAwk7
import Derived.Test.YtjkaegpgjphlcaaOpenM
import Derived.Test.YtjkaegpgjphlcaaRefLF
import Derived.Test.YtjkaegpgjphlcaaRefLN
import Derived.Test.YtjkaegpgjphlcaaRegH
import Derived.Deep.DeepCutAuto
namespace Go.Proofs.Ytjkaegpgjphlcaa
open Go.ChangeShapes Go.WideShapes Go.ChangeAt Go.RowKit
open Go.ChangeMaps (open_string shut_string)
open Led (Acc Mk)

theorem hold16 {a b : World} (g : Gr a b) {q0 q1 q2 q3 q4 q5 q6 q7 q8 q9 q10 q11 q12 q13 q14 q15 : Addr} {v0 v1 v2 v3 v4 v5 v6 v7 v8 v9 v10 v11 v12 v13 v14 v15 : Value} (h0 : a.cell? q0 = some v0) (h1 : a.cell? q1 = some v1) (h2 : a.cell? q2 = some v2) (h3 : a.cell? q3 = some v3) (h4 : a.cell? q4 = some v4) (h5 : a.cell? q5 = some v5) (h6 : a.cell? q6 = some v6) (h7 : a.cell? q7 = some v7) (h8 : a.cell? q8 = some v8) (h9 : a.cell? q9 = some v9) (h10 : a.cell? q10 = some v10) (h11 : a.cell? q11 = some v11) (h12 : a.cell? q12 = some v12) (h13 : a.cell? q13 = some v13) (h14 : a.cell? q14 = some v14) (h15 : a.cell? q15 = some v15) :
    Gr a b ∧ b.cell? q0 = some v0 ∧ b.cell? q1 = some v1 ∧ b.cell? q2 = some v2 ∧ b.cell? q3 = some v3 ∧ b.cell? q4 = some v4 ∧ b.cell? q5 = some v5 ∧ b.cell? q6 = some v6 ∧ b.cell? q7 = some v7 ∧ b.cell? q8 = some v8 ∧ b.cell? q9 = some v9 ∧ b.cell? q10 = some v10 ∧ b.cell? q11 = some v11 ∧ b.cell? q12 = some v12 ∧ b.cell? q13 = some v13 ∧ b.cell? q14 = some v14 ∧ b.cell? q15 = some v15 :=
  ⟨g, g.keep h0, g.keep h1, g.keep h2, g.keep h3, g.keep h4, g.keep h5, g.keep h6, g.keep h7, g.keep h8, g.keep h9, g.keep h10, g.keep h11, g.keep h12, g.keep h13, g.keep h14, g.keep h15⟩

theorem len_maxL {n : Nat} (h : n ≤ maxLen) : n ≤ 9223372036854775807 := by unfold maxLen at h; omega
set_option maxHeartbeats 8000000 in
set_option maxRecDepth 100000 in
theorem ledgerMays_walk (A : List Acc) (M : List Mk) (s key : ByteArray) (adA : Option Addr) (capA : Nat) (adM : Option Addr) (capM : Nat) (w : World) (h : LedAt w adA adM A M) (hk : key.size ≤ 9223372036854775807) :
    Calls Try.prog 3 #[.agg #[.slice adA A.length capA, .slice adM M.length capM], .string s, .string key] w fun e w' => e = .returned (.bool true) ∧ Gr w w' := by
  have HA : Hid (∀ w', Calls Try.prog 9 #[] w' fun e w2 => e = .returned (.bool true) ∧ Gr w' w2) := fun w' => awake_any w'
  have HS : Hid (∀ w', Gr w w' → Calls Try.prog 8 #[.agg #[.slice adA A.length capA, .slice adM M.length capM]] w' fun e w2 => IsB e ∧ Gr w' w2) := fun w' g => small_some A M adA capA adM capM w' (h.m.gr g) h.la h.lm
  have HF : Hid (∀ w', Gr w w' → Calls Try.prog 10 #[.agg #[.slice adA A.length capA, .slice adM M.length capM], .string s] w' fun e w2 => e = .returned (.tuple #[.agg (accC (findE A M s)).toArray, .bool (findB A M s)]) ∧ Gr w' w2) := fun w' g => find7_any A M s adA capA adM capM w' (h.gr g)
  have HG : Hid (∀ w', Gr w w' → Calls Try.prog 11 #[.agg #[.slice adA A.length capA, .slice adM M.length capM], .string s] w' fun e w2 => e = .returned (.tuple #[.agg (accC (findE A M s)).toArray, .bool (findB A M s)]) ∧ Gr w' w2) := fun w' g => refFind7_any A M s adA capA adM capM w' (h.gr g)
  have HN : Hid (∀ w', Gr w w' → Calls Try.prog 12 #[.agg #[.slice adA A.length capA, .slice adM M.length capM], .string s, .string key] w' fun e w2 => e = .returned (.tuple #[.int .i64 (netF A M s key), .int .i64 (netK A M s key), .int .i64 (netE A M s)]) ∧ Gr w' w2) := fun w' g => net7_any A M s key adA capA adM capM w' (h.gr g)
  have HO : Hid (∀ w', Gr w w' → Calls Try.prog 13 #[.agg #[.slice adA A.length capA, .slice adM M.length capM], .string s, .string key] w' fun e w2 => e = .returned (.tuple #[.int .i64 (netF A M s key), .int .i64 (netK A M s key), .int .i64 (netE A M s)]) ∧ Gr w' w2) := fun w' g => refNet7_any A M s key adA capA adM capM w' (h.gr g) hk
  have HM : Hid (∀ w', Gr w w' → Calls Try.prog 14 #[.agg #[.slice adA A.length capA, .slice adM M.length capM]] w' fun e w2 => e = .returned (.int .i64 (mayL A M)) ∧ Gr w' w2) := fun w' g => (h.gr g).may capA capM
  have HP : Hid (∀ w', Gr w w' → Calls Try.prog 15 #[.agg #[.slice adA A.length capA, .slice adM M.length capM]] w' fun e w2 => e = .returned (.int .i64 (mayL A M)) ∧ Gr w' w2) := fun w' g => refMay7_any A M adA capA adM capM w' (h.gr g)
  have HT : Hid (∀ w', Gr w w' → Calls Try.prog 16 #[.agg #[.slice adA A.length capA, .slice adM M.length capM], .string key] w' fun e w2 => e = .returned (.int .i64 (stateE A M key)) ∧ Gr w' w2) := fun w' g => state7_any A M key adA capA adM capM w' (h.gr g)
  have HU : Hid (∀ w', Gr w w' → Calls Try.prog 17 #[.agg #[.slice adA A.length capA, .slice adM M.length capM], .string key] w' fun e w2 => e = .returned (.int .i64 (stateE A M key)) ∧ Gr w' w2) := fun w' g => refState7_any A M key adA capA adM capM w' (h.gr g)
  clear h
  unfold accC at HF HG
  generalize findE A M s = x at *
  generalize findB A M s = fb at *
  generalize netF A M s key = nf at *
  generalize netK A M s key = nk at *
  generalize netE A M s = ne at *
  generalize mayL A M = my at *
  generalize stateE A M key = sk at *
  go_enter Try.func3, Try.ntmps3
  go_wp2_with fail
  refine (HS.out _ ((Gr.refl _).alloc)).mono ?_
  rintro e w1 ⟨⟨b, rfl⟩, hg1⟩
  have HB1 : Hid (TwoAt w1 w.heap.size (.slice adA A.length capA) (.slice adM M.length capM)) := (TwoAt.new w _ _ 25 _ rfl).gr hg1
  have g1 : Gr w w1 := (by repeat (first | exact Gr.refl _ | refine Gr.alloc ?_ | refine Gr.drew ?_ | refine Gr.trans ?_ (by assumption)))
  obtain ⟨b0, b1, _, _, bl⟩ := HB1.out
  clear hg1
  cases b with
  | false =>
    go_wp2_with fail
    refine (HA.out _).mono ?_
    rintro e w2 ⟨rfl, hg2⟩
    have g2 : Gr w w2 := g1.trans hg2
    clear hg2
    go_wp2
    go_ret
    exact ⟨rfl, g2⟩
  | true =>
  by_cases hlen : (1000 : Int) < (key.size : Int)
  · go_wp2_with fail
    refine (HA.out _).mono ?_
    rintro e w2 ⟨rfl, hg2⟩
    have g2 : Gr w w2 := g1.trans hg2
    clear hg2
    go_wp2
    go_ret
    exact ⟨rfl, g2⟩
  go_wp2_with fail
  refine (HF.out _ g1).mono ?_
  rintro e w2 ⟨rfl, hg2⟩
  have HB2 : Hid (TwoAt w2 w.heap.size (.slice adA A.length capA) (.slice adM M.length capM)) := HB1.out.gr hg2
  have g2 : Gr w w2 := g1.trans hg2
  clear hg2 b0 b1 bl HB1 g1
  obtain ⟨b0, b1, _, _, bl⟩ := HB2.out
  go_wp2_with fail
  refine (HG.out _ g2.alloc).mono ?_
  rintro e w3 ⟨rfl, hg3⟩
  have HB3 : Hid (TwoAt w3 w.heap.size (.slice adA A.length capA) (.slice adM M.length capM)) := (HB2.out.gr (Gr.refl _).alloc).gr hg3
  have HX3 : Hid (AccAt w3 w2.heap.size (.string x.s) (.int .i64 x.a) (.int .i64 x.b) (.int .i64 x.c) (.int .i64 x.x) (.int .i64 x.y) (.int .i64 x.z)) := (AccAt.new w2 _ _ _ _ _ _ _ _ _ rfl).gr hg3
  have g3 : Gr w w3 := g2.alloc.trans hg3
  clear hg3 b0 b1 bl HB2 g2
  obtain ⟨b0, b1, _, _, bl⟩ := HB3.out
  go_wp2_with fail
  refine (HN.out _ g3.alloc).mono ?_
  rintro e w4 ⟨rfl, hg4⟩
  have HB4 : Hid (TwoAt w4 w.heap.size (.slice adA A.length capA) (.slice adM M.length capM)) := (HB3.out.gr (Gr.refl _).alloc).gr hg4
  have HX4 : Hid (AccAt w4 w2.heap.size (.string x.s) (.int .i64 x.a) (.int .i64 x.b) (.int .i64 x.c) (.int .i64 x.x) (.int .i64 x.y) (.int .i64 x.z)) := (HX3.out.gr (Gr.refl _).alloc).gr hg4
  have HY4 : Hid (AccAt w4 w3.heap.size (.string x.s) (.int .i64 x.a) (.int .i64 x.b) (.int .i64 x.c) (.int .i64 x.x) (.int .i64 x.y) (.int .i64 x.z)) := (AccAt.new w3 _ _ _ _ _ _ _ _ _ rfl).gr hg4
  have g4 : Gr w w4 := g3.alloc.trans hg4
  clear hg4 b0 b1 bl HB3 g3 HX3
  obtain ⟨b0, b1, _, _, bl⟩ := HB4.out
  go_wp2_with fail
  refine (HO.out _ g4).mono ?_
  rintro e W ⟨rfl, hg5⟩
  have HB5 : Hid (TwoAt W w.heap.size (.slice adA A.length capA) (.slice adM M.length capM)) := HB4.out.gr hg5
  have HX5 : Hid (AccAt W w2.heap.size (.string x.s) (.int .i64 x.a) (.int .i64 x.b) (.int .i64 x.c) (.int .i64 x.x) (.int .i64 x.y) (.int .i64 x.z)) := HX4.out.gr hg5
  have HY5 : Hid (AccAt W w3.heap.size (.string x.s) (.int .i64 x.a) (.int .i64 x.b) (.int .i64 x.c) (.int .i64 x.x) (.int .i64 x.y) (.int .i64 x.z)) := HY4.out.gr hg5
  have g5 : Gr w W := g4.trans hg5
  clear hg5 b0 b1 bl HB4 g4 HX4 HY4
  obtain ⟨b0, b1, _, _, bl⟩ := HB5.out
  obtain ⟨x0, x1, x2, x3, x4, x5, x6⟩ := HX5.out.cells
  obtain ⟨y0, y1, y2, y3, y4, y5, y6⟩ := HY5.out.cells
  have HG5 : Hid (Gr w W) := g5
  clear g5
  go_upto_region 7 with fail
  refine wp_region_held_drew (S := (fun w' => Gr W w' ∧ w'.cell? ⟨w.heap.size, 0, none⟩ = some (.slice adA A.length capA) ∧ w'.cell? ⟨w.heap.size, 1, none⟩ = some (.slice adM M.length capM) ∧ w'.cell? ⟨w2.heap.size, 0, none⟩ = some (.string x.s) ∧ w'.cell? ⟨w2.heap.size, 1, none⟩ = some (.int .i64 x.a) ∧ w'.cell? ⟨w2.heap.size, 2, none⟩ = some (.int .i64 x.b) ∧ w'.cell? ⟨w2.heap.size, 3, none⟩ = some (.int .i64 x.c) ∧ w'.cell? ⟨w2.heap.size, 4, none⟩ = some (.int .i64 x.x) ∧ w'.cell? ⟨w2.heap.size, 5, none⟩ = some (.int .i64 x.y) ∧ w'.cell? ⟨w2.heap.size, 6, none⟩ = some (.int .i64 x.z) ∧ w'.cell? ⟨w3.heap.size, 0, none⟩ = some (.string x.s) ∧ w'.cell? ⟨w3.heap.size, 1, none⟩ = some (.int .i64 x.a) ∧ w'.cell? ⟨w3.heap.size, 2, none⟩ = some (.int .i64 x.b) ∧ w'.cell? ⟨w3.heap.size, 3, none⟩ = some (.int .i64 x.c) ∧ w'.cell? ⟨w3.heap.size, 4, none⟩ = some (.int .i64 x.x) ∧ w'.cell? ⟨w3.heap.size, 5, none⟩ = some (.int .i64 x.y) ∧ w'.cell? ⟨w3.heap.size, 6, none⟩ = some (.int .i64 x.z))) (by kernel_rfl) (by exact hold16 (by (repeat' (first | with_reducible exact Gr.refl _ | with_reducible refine Gr.set ?_ _ ?_ _ | with_reducible refine Gr.alloc ?_ | with_reducible refine Gr.drew ?_ | with_reducible refine Gr.trans ?_ (by assumption))) <;> (first | (simp; done) | (simp; omega) | omega)) b0 b1 x0 x1 x2 x3 x4 x5 x6 y0 y1 y2 y3 y4 y5 y6) (fun hHeld => ?_)
  refine take_yes 0 54 (v := ?_) rfl rfl (by kernel_rfl) (by kernel_rfl) (by kernel_rfl) (fun _ _ _ h => h) (by rfl) ?_ hHeld ?_
  rotate_left
  · (intro w hSw; (try dsimp only at hSw); go_simp; try with_reducible rfl)
  simp only [Act.put, List.setIfInBounds_toArray, List.set_cons_zero, List.set_cons_succ]
  refine take_yes 2 56 (v := ?_) rfl rfl (by kernel_rfl) (by kernel_rfl) (by kernel_rfl) (fun _ _ _ h => h) (by rfl) ?_ hHeld ?_
  rotate_left
  · (intro w hSw; (try dsimp only at hSw); go_simp; try with_reducible rfl)
  simp only [Act.put, List.setIfInBounds_toArray, List.set_cons_zero, List.set_cons_succ]
  refine wpAnyH_ready (rs := [1]) (by kernel_rfl) (by simp) (AllReadyH.cons rfl (fun K hK => ?_) AllReadyH.nil)
  go_simp
  (go_at_call 14; refine (HM.out _ (HG5.out.trans (by (repeat' (first | with_reducible exact Gr.refl _ | with_reducible refine Gr.set ?_ _ ?_ _ | with_reducible refine Gr.alloc ?_ | with_reducible refine Gr.drew ?_ | with_reducible refine Gr.trans ?_ (by assumption))) <;> (first | (simp; done) | (simp; omega) | omega)))).mono ?_; rintro e wa ⟨rfl, hga⟩)
  (try go_wp2_with fail)
  refine hK.out _ _ (by exact hold16 (by (repeat' (first | with_reducible exact Gr.refl _ | with_reducible refine Gr.set ?_ _ ?_ _ | with_reducible refine Gr.alloc ?_ | with_reducible refine Gr.drew ?_ | with_reducible refine Gr.trans ?_ (by assumption))) <;> (first | (simp; done) | (simp; omega) | omega)) b0 b1 x0 x1 x2 x3 x4 x5 x6 y0 y1 y2 y3 y4 y5 y6) (fun hHeldN => ?_)
  clear hHeld hK K
  have hHeld := hHeldN
  clear hHeldN
  refine wpAnyH_ready (rs := [3]) (by kernel_rfl) (by simp) (AllReadyH.cons rfl (fun K hK => ?_) AllReadyH.nil)
  go_simp
  (go_at_call 15; refine (HP.out _ (HG5.out.trans (by (repeat' (first | with_reducible exact Gr.refl _ | with_reducible refine Gr.set ?_ _ ?_ _ | with_reducible refine Gr.alloc ?_ | with_reducible refine Gr.drew ?_ | with_reducible refine Gr.trans ?_ (by assumption))) <;> (first | (simp; done) | (simp; omega) | omega)))).mono ?_; rintro e wb ⟨rfl, hgb⟩)
  (try go_wp2_with fail)
  refine hK.out _ _ (by exact hold16 (by (repeat' (first | with_reducible exact Gr.refl _ | with_reducible refine Gr.set ?_ _ ?_ _ | with_reducible refine Gr.alloc ?_ | with_reducible refine Gr.drew ?_ | with_reducible refine Gr.trans ?_ (by assumption))) <;> (first | (simp; done) | (simp; omega) | omega)) b0 b1 x0 x1 x2 x3 x4 x5 x6 y0 y1 y2 y3 y4 y5 y6) (fun hHeldN => ?_)
  clear hHeld hK K
  have hHeld := hHeldN
  clear hHeldN
  refine take_yes 4 58 (v := ?_) rfl rfl (by kernel_rfl) (by kernel_rfl) (by kernel_rfl) (fun _ _ _ h => h) (by rfl) ?_ hHeld ?_
  rotate_left
  · (intro w hSw; (try dsimp only at hSw); go_simp; try with_reducible rfl)
  simp only [Act.put, List.setIfInBounds_toArray, List.set_cons_zero, List.set_cons_succ]
  refine take_yes 5 59 (v := ?_) rfl rfl (by kernel_rfl) (by kernel_rfl) (by kernel_rfl) (fun _ _ _ h => h) (by rfl) ?_ hHeld ?_
  rotate_left
  · (intro w hSw; (try dsimp only at hSw); go_simp; try with_reducible rfl)
  simp only [Act.put, List.setIfInBounds_toArray, List.set_cons_zero, List.set_cons_succ]
  refine take_yes 6 60 (v := ?_) rfl rfl (by kernel_rfl) (by kernel_rfl) (by kernel_rfl) (fun _ _ _ h => h) (by rfl) ?_ hHeld ?_
  rotate_left
  · (intro w hSw; (try dsimp only at hSw); go_simp; try with_reducible rfl)
  simp only [Act.put, List.setIfInBounds_toArray, List.set_cons_zero, List.set_cons_succ]
  refine take_yes 7 61 (v := ?_) rfl rfl (by kernel_rfl) (by kernel_rfl) (by kernel_rfl) (fun _ _ _ h => h) (by rfl) ?_ hHeld ?_
  rotate_left
  · (intro w hSw; (try dsimp only at hSw); go_simp; try with_reducible rfl)
  simp only [Act.put, List.setIfInBounds_toArray, List.set_cons_zero, List.set_cons_succ]
  refine take_yes 8 62 (v := ?_) rfl rfl (by kernel_rfl) (by kernel_rfl) (by kernel_rfl) (fun _ _ _ h => h) (by rfl) ?_ hHeld ?_
  rotate_left
  · (intro w hSw; (try dsimp only at hSw); go_simp; try with_reducible rfl)
  simp only [Act.put, List.setIfInBounds_toArray, List.set_cons_zero, List.set_cons_succ]
  refine take_yes 9 63 (v := ?_) rfl rfl (by kernel_rfl) (by kernel_rfl) (by kernel_rfl) (fun _ _ _ h => h) (by rfl) ?_ hHeld ?_
  rotate_left
  · (intro w hSw; (try dsimp only at hSw); go_simp; try with_reducible rfl)
  simp only [Act.put, List.setIfInBounds_toArray, List.set_cons_zero, List.set_cons_succ]
  refine take_yes 10 64 (v := ?_) rfl rfl (by kernel_rfl) (by kernel_rfl) (by kernel_rfl) (fun _ _ _ h => h) (by rfl) ?_ hHeld ?_
  rotate_left
  · (intro w hSw; (try dsimp only at hSw); go_simp; try with_reducible rfl)
  simp only [Act.put, List.setIfInBounds_toArray, List.set_cons_zero, List.set_cons_succ]
  refine take_yes 11 65 (v := ?_) rfl rfl (by kernel_rfl) (by kernel_rfl) (by kernel_rfl) (fun _ _ _ h => h) (by rfl) ?_ hHeld ?_
  rotate_left
  · (intro w hSw; (try dsimp only at hSw); go_simp; try with_reducible rfl)
  simp only [Act.put, List.setIfInBounds_toArray, List.set_cons_zero, List.set_cons_succ]
  refine take_yes 12 66 (v := ?_) rfl rfl (by kernel_rfl) (by kernel_rfl) (by kernel_rfl) (fun _ _ _ h => h) (by rfl) ?_ hHeld ?_
  rotate_left
  · (intro w hSw; (try dsimp only at hSw); go_simp; try with_reducible rfl)
  simp only [Act.put, List.setIfInBounds_toArray, List.set_cons_zero, List.set_cons_succ]
  refine take_yes 13 67 (v := ?_) rfl rfl (by kernel_rfl) (by kernel_rfl) (by kernel_rfl) (fun _ _ _ h => h) (by rfl) ?_ hHeld ?_
  rotate_left
  · (intro w hSw; (try dsimp only at hSw); go_simp; try with_reducible rfl)
  simp only [Act.put, List.setIfInBounds_toArray, List.set_cons_zero, List.set_cons_succ]
  refine take_yes 14 68 (v := ?_) rfl rfl (by kernel_rfl) (by kernel_rfl) (by kernel_rfl) (fun _ _ _ h => h) (by rfl) ?_ hHeld ?_
  rotate_left
  · (intro w hSw; (try dsimp only at hSw); go_simp; try with_reducible rfl)
  simp only [Act.put, List.setIfInBounds_toArray, List.set_cons_zero, List.set_cons_succ]
  refine take_yes 15 69 (v := ?_) rfl rfl (by kernel_rfl) (by kernel_rfl) (by kernel_rfl) (fun _ _ _ h => h) (by rfl) ?_ hHeld ?_
  rotate_left
  · (intro w hSw; (try dsimp only at hSw); go_simp; try with_reducible rfl)
  simp only [Act.put, List.setIfInBounds_toArray, List.set_cons_zero, List.set_cons_succ]
  refine take_yes 16 70 (v := ?_) rfl rfl (by kernel_rfl) (by kernel_rfl) (by kernel_rfl) (fun _ _ _ h => h) (by rfl) ?_ hHeld ?_
  rotate_left
  · (intro w hSw; (try dsimp only at hSw); go_simp; try with_reducible rfl)
  simp only [Act.put, List.setIfInBounds_toArray, List.set_cons_zero, List.set_cons_succ]
  refine take_yes 17 71 (v := ?_) rfl rfl (by kernel_rfl) (by kernel_rfl) (by kernel_rfl) (fun _ _ _ h => h) (by rfl) ?_ hHeld ?_
  rotate_left
  · (intro w hSw; (try dsimp only at hSw); go_simp; try with_reducible rfl)
  simp only [Act.put, List.setIfInBounds_toArray, List.set_cons_zero, List.set_cons_succ]
  refine take_yes 19 73 (v := ?_) rfl rfl (by kernel_rfl) (by kernel_rfl) (by kernel_rfl) (fun _ _ _ h => h) (by rfl) ?_ hHeld ?_
  rotate_left
  · (intro w hSw; (try dsimp only at hSw); go_simp; try with_reducible rfl)
  simp only [Act.put, List.setIfInBounds_toArray, List.set_cons_zero, List.set_cons_succ]
  refine take_yes 20 74 (v := ?_) rfl rfl (by kernel_rfl) (by kernel_rfl) (by kernel_rfl) (fun _ _ _ h => h) (by rfl) ?_ hHeld ?_
  rotate_left
  · (intro w hSw; (try dsimp only at hSw); go_simp; try with_reducible rfl)
  simp only [Act.put, List.setIfInBounds_toArray, List.set_cons_zero, List.set_cons_succ]
  refine wpAnyH_ready (rs := [18]) (by kernel_rfl) (by simp) (AllReadyH.cons rfl (fun K hK => ?_) AllReadyH.nil)
  go_simp
  (go_at_call 16; refine (HT.out _ (HG5.out.trans (by (repeat' (first | with_reducible exact Gr.refl _ | with_reducible refine Gr.set ?_ _ ?_ _ | with_reducible refine Gr.alloc ?_ | with_reducible refine Gr.drew ?_ | with_reducible refine Gr.trans ?_ (by assumption))) <;> (first | (simp; done) | (simp; omega) | omega)))).mono ?_; rintro e wc ⟨rfl, hgc⟩)
  (try go_wp2_with fail)
  refine hK.out _ _ (by exact hold16 (by (repeat' (first | with_reducible exact Gr.refl _ | with_reducible refine Gr.set ?_ _ ?_ _ | with_reducible refine Gr.alloc ?_ | with_reducible refine Gr.drew ?_ | with_reducible refine Gr.trans ?_ (by assumption))) <;> (first | (simp; done) | (simp; omega) | omega)) b0 b1 x0 x1 x2 x3 x4 x5 x6 y0 y1 y2 y3 y4 y5 y6) (fun hHeldN => ?_)
  clear hHeld hK K
  have hHeld := hHeldN
  clear hHeldN
  refine wpAnyH_ready (rs := [21]) (by kernel_rfl) (by simp) (AllReadyH.cons rfl (fun K hK => ?_) AllReadyH.nil)
  go_simp
  (go_at_call 17; refine (HU.out _ (HG5.out.trans (by (repeat' (first | with_reducible exact Gr.refl _ | with_reducible refine Gr.set ?_ _ ?_ _ | with_reducible refine Gr.alloc ?_ | with_reducible refine Gr.drew ?_ | with_reducible refine Gr.trans ?_ (by assumption))) <;> (first | (simp; done) | (simp; omega) | omega)))).mono ?_; rintro e wd ⟨rfl, hgd⟩)
  (try go_wp2_with fail)
  refine hK.out _ _ (by exact hold16 (by (repeat' (first | with_reducible exact Gr.refl _ | with_reducible refine Gr.set ?_ _ ?_ _ | with_reducible refine Gr.alloc ?_ | with_reducible refine Gr.drew ?_ | with_reducible refine Gr.trans ?_ (by assumption))) <;> (first | (simp; done) | (simp; omega) | omega)) b0 b1 x0 x1 x2 x3 x4 x5 x6 y0 y1 y2 y3 y4 y5 y6) (fun hHeldN => ?_)
  clear hHeld hK K
  have hHeld := hHeldN
  clear hHeldN
  refine take_yes 22 76 (v := ?_) rfl rfl (by kernel_rfl) (by kernel_rfl) (by kernel_rfl) (fun _ _ _ h => h) (by rfl) ?_ hHeld ?_
  rotate_left
  · (intro w hSw; (try dsimp only at hSw); go_simp; try with_reducible rfl)
  simp only [Act.put, List.setIfInBounds_toArray, List.set_cons_zero, List.set_cons_succ]
  refine take_yes 23 77 (v := ?_) rfl rfl (by kernel_rfl) (by kernel_rfl) (by kernel_rfl) (fun _ _ _ h => h) (by rfl) ?_ hHeld ?_
  rotate_left
  · (intro w hSw; (try dsimp only at hSw); go_simp; try with_reducible rfl)
  simp only [Act.put, List.setIfInBounds_toArray, List.set_cons_zero, List.set_cons_succ]
  refine take_yes 24 78 (v := ?_) rfl rfl (by kernel_rfl) (by kernel_rfl) (by kernel_rfl) (fun _ _ _ h => h) (by rfl) ?_ hHeld ?_
  rotate_left
  · (intro w hSw; (try dsimp only at hSw); go_simp; try with_reducible rfl)
  simp only [Act.put, List.setIfInBounds_toArray, List.set_cons_zero, List.set_cons_succ]
  refine take_yes 25 79 (v := ?_) rfl rfl (by kernel_rfl) (by kernel_rfl) (by kernel_rfl) (fun _ _ _ h => h) (by rfl) ?_ hHeld ?_
  rotate_left
  · (intro w hSw; (try dsimp only at hSw); go_simp; try with_reducible rfl)
  simp only [Act.put, List.setIfInBounds_toArray, List.set_cons_zero, List.set_cons_succ]
  refine take_yes 26 80 (v := ?_) rfl rfl (by kernel_rfl) (by kernel_rfl) (by kernel_rfl) (fun _ _ _ h => h) (by rfl) ?_ hHeld ?_
  rotate_left
  · (intro w hSw; (try dsimp only at hSw); go_simp; try with_reducible rfl)
  simp only [Act.put, List.setIfInBounds_toArray, List.set_cons_zero, List.set_cons_succ]
  refine take_yes 27 81 (v := ?_) rfl rfl (by kernel_rfl) (by kernel_rfl) (by kernel_rfl) (fun _ _ _ h => h) (by rfl) ?_ hHeld ?_
  rotate_left
  · (intro w hSw; (try dsimp only at hSw); go_simp; try with_reducible rfl)
  simp only [Act.put, List.setIfInBounds_toArray, List.set_cons_zero, List.set_cons_succ]
  refine take_yes 28 82 (v := ?_) rfl rfl (by kernel_rfl) (by kernel_rfl) (by kernel_rfl) (fun _ _ _ h => h) (by rfl) ?_ hHeld ?_
  rotate_left
  · (intro w hSw; (try dsimp only at hSw); go_simp; try with_reducible rfl)
  simp only [Act.put, List.setIfInBounds_toArray, List.set_cons_zero, List.set_cons_succ]
  refine take_yes 29 83 (v := ?_) rfl rfl (by kernel_rfl) (by kernel_rfl) (by kernel_rfl) (fun _ _ _ h => h) (by rfl) ?_ hHeld ?_
  rotate_left
  · (intro w hSw; (try dsimp only at hSw); go_simp; try with_reducible rfl)
  simp only [Act.put, List.setIfInBounds_toArray, List.set_cons_zero, List.set_cons_succ]
  refine take_yes 30 84 (v := ?_) rfl rfl (by kernel_rfl) (by kernel_rfl) (by kernel_rfl) (fun _ _ _ h => h) (by rfl) ?_ hHeld ?_
  rotate_left
  · (intro w hSw; (try dsimp only at hSw); go_simp; try with_reducible rfl)
  simp only [Act.put, List.setIfInBounds_toArray, List.set_cons_zero, List.set_cons_succ]
  refine take_yes 31 85 (v := ?_) rfl rfl (by kernel_rfl) (by kernel_rfl) (by kernel_rfl) (fun _ _ _ h => h) (by rfl) ?_ hHeld ?_
  rotate_left
  · (intro w hSw; (try dsimp only at hSw); go_simp; try with_reducible rfl)
  simp only [Act.put, List.setIfInBounds_toArray, List.set_cons_zero, List.set_cons_succ]
  refine take_yes 32 86 (v := ?_) rfl rfl (by kernel_rfl) (by kernel_rfl) (by kernel_rfl) (fun _ _ _ h => h) (by rfl) ?_ hHeld ?_
  rotate_left
  · (intro w hSw; (try dsimp only at hSw); go_simp; try with_reducible rfl)
  simp only [Act.put, List.setIfInBounds_toArray, List.set_cons_zero, List.set_cons_succ]
  refine take_yes 33 87 (v := ?_) rfl rfl (by kernel_rfl) (by kernel_rfl) (by kernel_rfl) (fun _ _ _ h => h) (by rfl) ?_ hHeld ?_
  rotate_left
  · (intro w hSw; (try dsimp only at hSw); go_simp; try with_reducible rfl)
  simp only [Act.put, List.setIfInBounds_toArray, List.set_cons_zero, List.set_cons_succ]
  refine take_yes 34 88 (v := ?_) rfl rfl (by kernel_rfl) (by kernel_rfl) (by kernel_rfl) (fun _ _ _ h => h) (by rfl) ?_ hHeld ?_
  rotate_left
  · (intro w hSw; (try dsimp only at hSw); go_simp; try with_reducible rfl)
  simp only [Act.put, List.setIfInBounds_toArray, List.set_cons_zero, List.set_cons_succ]
  refine take_yes 35 89 (v := ?_) rfl rfl (by kernel_rfl) (by kernel_rfl) (by kernel_rfl) (fun _ _ _ h => h) (by rfl) ?_ hHeld ?_
  rotate_left
  · (intro w hSw; (try dsimp only at hSw); go_simp; try with_reducible rfl)
  simp only [Act.put, List.setIfInBounds_toArray, List.set_cons_zero, List.set_cons_succ]
  refine take_yes 36 90 (v := ?_) rfl rfl (by kernel_rfl) (by kernel_rfl) (by kernel_rfl) (fun _ _ _ h => h) (by rfl) ?_ hHeld ?_
  rotate_left
  · (intro w hSw; (try dsimp only at hSw); go_simp; try with_reducible rfl)
  simp only [Act.put, List.setIfInBounds_toArray, List.set_cons_zero, List.set_cons_succ]
  refine take_yes 37 91 (v := ?_) rfl rfl (by kernel_rfl) (by kernel_rfl) (by kernel_rfl) (fun _ _ _ h => h) (by rfl) ?_ hHeld ?_
  rotate_left
  · (intro w hSw; (try dsimp only at hSw); go_simp; try with_reducible rfl)
  simp only [Act.put, List.setIfInBounds_toArray, List.set_cons_zero, List.set_cons_succ]
  refine take_yes 38 92 (v := ?_) rfl rfl (by kernel_rfl) (by kernel_rfl) (by kernel_rfl) (fun _ _ _ h => h) (by rfl) ?_ hHeld ?_
  rotate_left
  · (intro w hSw; (try dsimp only at hSw); go_simp; try with_reducible rfl)
  simp only [Act.put, List.setIfInBounds_toArray, List.set_cons_zero, List.set_cons_succ]
  refine take_yes 39 93 (v := ?_) rfl rfl (by kernel_rfl) (by kernel_rfl) (by kernel_rfl) (fun _ _ _ h => h) (by rfl) ?_ hHeld ?_
  rotate_left
  · (intro w hSw; (try dsimp only at hSw); go_simp; try with_reducible rfl)
  simp only [Act.put, List.setIfInBounds_toArray, List.set_cons_zero, List.set_cons_succ]
  refine wpAnyH_ready (rs := [40]) (by kernel_rfl) (by simp) (AllReadyH.cons rfl (fun K hK => ?_) AllReadyH.nil)
  go_simp
  (go_at_call 9; refine (HA.out _).mono ?_; rintro e we ⟨rfl, hge⟩)
  (try go_wp2_with fail)
  refine hK.out _ _ (by exact hold16 (by (repeat' (first | with_reducible exact Gr.refl _ | with_reducible refine Gr.set ?_ _ ?_ _ | with_reducible refine Gr.alloc ?_ | with_reducible refine Gr.drew ?_ | with_reducible refine Gr.trans ?_ (by assumption))) <;> (first | (simp; done) | (simp; omega) | omega)) b0 b1 x0 x1 x2 x3 x4 x5 x6 y0 y1 y2 y3 y4 y5 y6) (fun hHeldN => ?_)
  clear hHeld hK K
  have hHeld := hHeldN
  clear hHeldN
  refine take_yes 41 95 (v := ?_) rfl rfl (by kernel_rfl) (by kernel_rfl) (by kernel_rfl) (fun _ _ _ h => h) (by rfl) ?_ hHeld ?_
  rotate_left
  · (intro w hSw; (try dsimp only at hSw); go_simp; try with_reducible rfl)
  simp only [Act.put, List.setIfInBounds_toArray, List.set_cons_zero, List.set_cons_succ]
  refine take_yes 42 6 (v := ?_) rfl rfl (by kernel_rfl) (by kernel_rfl) (by kernel_rfl) (fun _ _ _ h => h) (by rfl) ?_ hHeld ?_
  rotate_left
  · (intro w hSw; (try dsimp only at hSw); go_simp; try with_reducible rfl)
  simp only [Act.put, List.setIfInBounds_toArray, List.set_cons_zero, List.set_cons_succ]
  refine wpAnyH_done (by kernel_rfl) ?_ _
  go_wp2
  go_ret
  exact ⟨rfl, HG5.out.trans (by (repeat' (first | with_reducible exact Gr.refl _ | with_reducible refine Gr.set ?_ _ ?_ _ | with_reducible refine Gr.alloc ?_ | with_reducible refine Gr.drew ?_ | with_reducible refine Gr.trans ?_ (by assumption))) <;> (first | (simp; done) | (simp; omega) | omega))⟩

set_option maxRecDepth 100000 in
theorem ledgerMays_lifted (os : Os) (started : os.Started) (H : Type) (enc : TypeId × Value → H) :
    ReturnsInHanded {} Try.checked os 3 .any (Rows.ledgerMaysSpec.pre6 enc Try.prog Try.f3 Rows.ledgerMaysRow.domain false) (Rows.ledgerMaysSpec.post enc Try.prog Try.f3 false true false false) := by
  refine returnsInHanded_of_change (C := Try.checked) own2 started (by kernel_rfl) Try.func3
    (ChangeSpec.witness6 (enc := enc) (C := Try.checked) false ⟨#[], #[.agg #[.slice none 0 0, .slice none 0 0], .string ⟨#[]⟩, .string ⟨#[]⟩], []⟩ 8 (by kernel_rfl) (by kernel_rfl) (by kernel_rfl) (by kernel_rfl)) ?_
  intro W base args ds gs before hval0 hW hcnd _
  have hval : ∀ (j : Nat) t v, Try.f3.params[j]? = some t → args[j]? = some v → Value.okWide Try.prog W .any base t v := hval0
  have hW' := hW
  obtain ⟨p, q, hA0, hV, rfl, hfz, hnd⟩ := hW
  have hA : DataW.TrodAll enc Try.prog W 0 (fun _ => true) true Try.f3.params.toList args.toList ds p := hA0
  rw [Try.params3] at hA hval
  obtain ⟨v0, v1, v2, d0, d1, d2, p0, p1, p2, rfl, rfl, rfl, q0, q1, q2⟩ := trodAll_three hA
  obtain ⟨rfl, rfl⟩ := trodVars_none hV
  have k0 := q0
  have lt0 : ∀ x ∈ p0, x.block < W.heap.size := by obtain ⟨m, hm⟩ := k0; exact DataW.trod_lt m _ _ _ hm
  obtain ⟨adA0, capA0, adM0, capM0, A0, M0, rfl, hL0⟩ := open_led (hval 0 25 v0 rfl rfl) q0
  obtain ⟨a1, rfl, rfl, rfl, wa1⟩ := open_string Try.underlying9 (hval 1 9 v1 rfl rfl) q1
  obtain ⟨a2, rfl, rfl, rfl, wa2⟩ := open_string Try.underlying9 (hval 2 9 v2 rfl rfl) q2
  clear hA0 hval0
  refine (ledgerMays_walk A0 M0 a1 a2 adA0 capA0 adM0 capM0 W hL0 (len_maxL wa2)).mono fun e W' ⟨he, hg⟩ => ?_
  subst he
  exact ⟨_, rfl, _, _, _, [], _, [], hW', trodAll_mk1 (shut_bool Try.underlying4 _), trodAll_mk3 (Below.trod laidOut2 (by kernel_rfl) (of_decide_eq_true (by kernel_rfl)) k0 hg.below lt0) (shut_string Try.underlying9 wa1) (shut_string Try.underlying9 wa2), rfl, hg.below.frame _, fun h => by cases h⟩

theorem ledgerMays_holds : Rows.LedgerMaysSaid :=
  OpenClaim.holds_of_wide 3 Try.f3 rfl rfl rfl rfl rfl rfl rfl ⟨rfl, rfl, rfl, rfl, rfl⟩ rfl rfl rfl rfl rfl (by kernel_rfl) Try.func3 (by kernel_rfl)
    (of_decide_eq_true (by kernel_rfl)) (by unfold Func.isWrapper; first | (rw [if_pos (by decide +kernel)]; kernel_rfl) | (rw [if_neg (by decide +kernel)]; exact ⟨rfl, rfl⟩))
    (fun os started H enc _ => ledgerMays_lifted os started H enc)
end Go.Proofs.Ytjkaegpgjphlcaa
