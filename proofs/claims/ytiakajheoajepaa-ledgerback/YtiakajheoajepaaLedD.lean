/- ledger: marks that may be. -/
import Derived.Test.YtiakajheoajepaaLedK
import Derived.Laws.Cover1
namespace Go.Proofs.Ytiakajheoajepaa
open Go.RowKit
open Led (Acc Mk)

theorem hold5a {a b : World} (g : Gr a b) {q0 q1 q2 q3 q4 : Addr} {v0 v1 v2 v3 v4 : Value} (h0 : a.cell? q0 = some v0) (h1 : a.cell? q1 = some v1) (h2 : a.cell? q2 = some v2) (h3 : a.cell? q3 = some v3) (h4 : a.cell? q4 = some v4) :
    Gr a b ∧ b.cell? q0 = some v0 ∧ b.cell? q1 = some v1 ∧ b.cell? q2 = some v2 ∧ b.cell? q3 = some v3 ∧ b.cell? q4 = some v4 :=
  ⟨g, g.keep h0, g.keep h1, g.keep h2, g.keep h3, g.keep h4⟩
theorem hold6a {a b : World} (g : Gr a b) {q0 q1 q2 q3 q4 q5 : Addr} {v0 v1 v2 v3 v4 v5 : Value} (h0 : a.cell? q0 = some v0) (h1 : a.cell? q1 = some v1) (h2 : a.cell? q2 = some v2) (h3 : a.cell? q3 = some v3) (h4 : a.cell? q4 = some v4) (h5 : a.cell? q5 = some v5) :
    Gr a b ∧ b.cell? q0 = some v0 ∧ b.cell? q1 = some v1 ∧ b.cell? q2 = some v2 ∧ b.cell? q3 = some v3 ∧ b.cell? q4 = some v4 ∧ b.cell? q5 = some v5 :=
  ⟨g, g.keep h0, g.keep h1, g.keep h2, g.keep h3, g.keep h4, g.keep h5⟩

set_option maxHeartbeats 4000000 in
set_option maxRecDepth 100000 in
theorem mks_any (A : List Acc) (M : List Mk) (adA : Option Addr) (capA : Nat) (ad : Option Addr) (cap : Nat) (w : World) (hA : AccsAt w adA A) (hu : Led.upB (Led.nm A) = true) (hnA : A.length ≤ 1000000) (hM : MksAt w ad M) (hr : ∀ x ∈ M, inM x) (hn : M.length ≤ 9223372036854775807) :
    Calls Try.prog 40 #[.slice ad M.length cap, .func (.func 30) #[.slice adA A.length capA] #[]] w fun e w' => e = .returned (.bool (Led.mksB A M)) ∧ Gr w w' := by
  have HL : Hid (MksAt w ad M) := hM
  have HR : Hid (∀ x ∈ M, inM x) := hr
  have HMM : Hid (∀ (m : Mk) w', inM m → Gr w w' → Calls Try.prog 71 #[.agg #[.string m.key, .int .i64 m.k, .string m.t, .int .i64 m.n, .int .i64 m.st], .func (.func 30) #[.slice adA A.length capA] #[]] w' fun e w2 => e = .returned (.bool (Led.mkOk A m)) ∧ Gr w' w2) := fun m w' hm g => markMay_any A m adA capA w' (hA.gr g) hu hnA hm
  clear hA hM hr hu
  by_cases hlen : (500 : Int) < (M.length : Int)
  · have HF : Hid (Led.mksB A M = false) := by
      show _ = _
      unfold Led.mksB
      rw [decide_eq_false (by omega)]; rfl
    have hlen2 : 500 < M.length := by omega
    go_enter Try.func40, Try.ntmps40
    go_wp2
    go_ret
    exact ⟨by rw [HF.out]; rfl, (by repeat (first | exact Gr.refl _ | refine Gr.alloc ?_ | refine Gr.drew ?_ | refine Gr.trans ?_ (by assumption)))⟩
  · have hlen2 : ¬ 500 < M.length := by omega
    go_enter Try.func40, Try.ntmps40
    go_wp2
    go_loopw [12] (fun s10 wr => ∃ k : Nat, s10 = .int .i64 k ∧ k ≤ M.length ∧ (∀ j (h : j < M.length), j < k → Led.mkOk A M[j] = true) ∧ (∀ j (h : j + 1 < M.length), j + 1 < k → Led.lt M[j].key M[j + 1].key = true) ∧ Gr w wr) (fun s10 _ => M.length - (intOf s10).toNat)
    case atStart => exact ⟨0, rfl, Nat.zero_le _, fun j _ h => absurd h (Nat.not_lt_zero _), fun j _ h => absurd h (Nat.not_lt_zero _), Gr.refl _⟩
    case round =>
      obtain ⟨k, rfl, hk, hok, hup, hg⟩ := hrel
      have HG : Hid (Gr w wr) := hg
      have HK : Hid (∀ j (h : j < M.length), j < k → Led.mkOk A M[j] = true) := hok
      have HU : Hid (∀ j (h : j + 1 < M.length), j + 1 < k → Led.lt M[j].key M[j + 1].key = true) := hup
      clear hg hok hup
      by_cases hlt : k < M.length
      · obtain ⟨b, off, rfl, hb, d0, d1, d2, d3, d4⟩ := (MksAt.at HL.out k hlt)
        have d0 := HG.out.keep d0
        have d1 := HG.out.keep d1
        have d2 := HG.out.keep d2
        have d3 := HG.out.keep d3
        have d4 := HG.out.keep d4
        have hbw : b < wr.heap.size := Nat.lt_of_lt_of_le hb HG.out.size
        have hki : (k : Int) < (M.length : Int) := by omega
        have hM := fun w' => HMM.out M[k] w' (HR.out M[k] (List.getElem_mem hlt))
        cases hacc : Led.mkOk A M[k] with
        | false =>
          have HF : Hid (Led.mksB A M = false) := by
            show _ = _
            unfold Led.mksB
            have : M.all (Led.mkOk A) = false := by rw [List.all_eq_false]; exact ⟨M[k], List.getElem_mem hlt, by rw [hacc]; simp⟩
            rw [this]; simp
          have hM2 : ∀ w', Gr w w' → Calls Try.prog 71 #[.agg #[.string M[k].key, .int .i64 M[k].k, .string M[k].t, .int .i64 M[k].n, .int .i64 M[k].st], .func (.func 30) #[.slice adA A.length capA] #[]] w' fun e w2 => e = .returned (.bool false) ∧ Gr w' w2 := fun w' g => by have := hM w' g; rw [hacc] at this; exact this
          clear hM hacc
          generalize M[k] = x at *
          have HM : Hid (∀ w', Gr w w' → Calls Try.prog 71 #[.agg #[.string x.key, .int .i64 x.k, .string x.t, .int .i64 x.n, .int .i64 x.st], .func (.func 30) #[.slice adA A.length capA] #[]] w' fun e w2 => e = .returned (.bool false) ∧ Gr w' w2) := hM2
          clear hM2
          go_wp2_with fail
          have X := FiveAt.new wr (.string x.key) (.int .i64 x.k) (.string x.t) (.int .i64 x.n) (.int .i64 x.st) 64 _ rfl
          obtain ⟨x0, x1, x2, x3, x4, _, _⟩ := X
          obtain ⟨W, hW⟩ : ∃ W, W = wr.alloc (.cells #[.string x.key, .int .i64 x.k, .string x.t, .int .i64 x.n, .int .i64 x.st] 64) := ⟨_, rfl⟩
          have HGW : Hid (Gr w W) := by show Gr _ _; rw [hW]; exact HG.out.alloc
          rw [← hW] at x0 x1 x2 x3 x4 ⊢
          clear hW d0 d1 d2 d3 d4
          refine wp_region_held_drew (S := (fun w' => Gr W w' ∧ w'.cell? ⟨wr.heap.size, 0, none⟩ = some (.string x.key) ∧ w'.cell? ⟨wr.heap.size, 1, none⟩ = some (.int .i64 x.k) ∧ w'.cell? ⟨wr.heap.size, 2, none⟩ = some (.string x.t) ∧ w'.cell? ⟨wr.heap.size, 3, none⟩ = some (.int .i64 x.n) ∧ w'.cell? ⟨wr.heap.size, 4, none⟩ = some (.int .i64 x.st))) (by kernel_rfl) (by exact hold5a (by (repeat' (first | with_reducible exact Gr.refl _ | with_reducible refine Gr.set ?_ _ ?_ _ | with_reducible refine Gr.alloc ?_ | with_reducible refine Gr.drew ?_ | with_reducible refine Gr.trans ?_ (by assumption))) <;> (first | (simp; done) | (simp; omega) | omega)) x0 x1 x2 x3 x4) (fun hHeld => ?_)
          refine take_yes 0 17 (v := ?_) rfl rfl (by kernel_rfl) (by kernel_rfl) (by kernel_rfl) (fun _ _ _ h => h) (by rfl) ?_ hHeld ?_
          rotate_left
          · (intro w hSw; (try dsimp only at hSw); go_simp; try with_reducible rfl)
          simp only [Act.put, List.setIfInBounds_toArray, List.set_cons_zero, List.set_cons_succ]
          refine take_yes 1 18 (v := ?_) rfl rfl (by kernel_rfl) (by kernel_rfl) (by kernel_rfl) (fun _ _ _ h => h) (by rfl) ?_ hHeld ?_
          rotate_left
          · (intro w hSw; (try dsimp only at hSw); go_simp; try with_reducible rfl)
          simp only [Act.put, List.setIfInBounds_toArray, List.set_cons_zero, List.set_cons_succ]
          refine wpAnyH_ready (rs := [2]) (by kernel_rfl) (by simp) (AllReadyH.cons rfl (fun K hK => ?_) AllReadyH.nil)
          go_simp
          (go_at_call 71; refine (HM.out _ (HGW.out.trans (by (repeat' (first | with_reducible exact Gr.refl _ | with_reducible refine Gr.set ?_ _ ?_ _ | with_reducible refine Gr.alloc ?_ | with_reducible refine Gr.drew ?_ | with_reducible refine Gr.trans ?_ (by assumption))) <;> (first | (simp; done) | (simp; omega) | omega)))).mono ?_; rintro e wn ⟨rfl, hgn⟩)
          (try go_wp2_with fail)
          refine hK.out _ _ (by exact hold5a (by (repeat' (first | with_reducible exact Gr.refl _ | with_reducible refine Gr.set ?_ _ ?_ _ | with_reducible refine Gr.alloc ?_ | with_reducible refine Gr.drew ?_ | with_reducible refine Gr.trans ?_ (by assumption))) <;> (first | (simp; done) | (simp; omega) | omega)) x0 x1 x2 x3 x4) (fun hHeldN => ?_)
          clear hHeld hK K
          have hHeld := hHeldN
          clear hHeldN
          refine take_yes 3 20 (v := ?_) rfl rfl (by kernel_rfl) (by kernel_rfl) (by kernel_rfl) (fun _ _ _ h => h) (by rfl) ?_ hHeld ?_
          rotate_left
          · (intro w hSw; (try dsimp only at hSw); go_simp; try with_reducible rfl)
          simp only [Act.put, List.setIfInBounds_toArray, List.set_cons_zero, List.set_cons_succ]
          refine take_yes 4 21 (v := ?_) rfl rfl (by kernel_rfl) (by kernel_rfl) (by kernel_rfl) (fun _ _ _ h => h) (by rfl) ?_ hHeld ?_
          rotate_left
          · (intro w hSw; (try dsimp only at hSw); go_simp; try with_reducible rfl)
          simp only [Act.put, List.setIfInBounds_toArray, List.set_cons_zero, List.set_cons_succ]
          refine take_not 5 22 rfl rfl (by kernel_rfl) (by kernel_rfl) (by kernel_rfl) (fun _ _ _ h => h) (by rfl) hHeld ?_
          simp only [Act.put, List.setIfInBounds_toArray, List.set_cons_zero, List.set_cons_succ]
          refine take_not 6 23 rfl rfl (by kernel_rfl) (by kernel_rfl) (by kernel_rfl) (fun _ _ _ h => h) (by rfl) hHeld ?_
          simp only [Act.put, List.setIfInBounds_toArray, List.set_cons_zero, List.set_cons_succ]
          refine take_not 7 24 rfl rfl (by kernel_rfl) (by kernel_rfl) (by kernel_rfl) (fun _ _ _ h => h) (by rfl) hHeld ?_
          simp only [Act.put, List.setIfInBounds_toArray, List.set_cons_zero, List.set_cons_succ]
          refine take_not 8 25 rfl rfl (by kernel_rfl) (by kernel_rfl) (by kernel_rfl) (fun _ _ _ h => h) (by rfl) hHeld ?_
          simp only [Act.put, List.setIfInBounds_toArray, List.set_cons_zero, List.set_cons_succ]
          refine take_not 9 26 rfl rfl (by kernel_rfl) (by kernel_rfl) (by kernel_rfl) (fun _ _ _ h => h) (by rfl) hHeld ?_
          simp only [Act.put, List.setIfInBounds_toArray, List.set_cons_zero, List.set_cons_succ]
          refine take_not 10 27 rfl rfl (by kernel_rfl) (by kernel_rfl) (by kernel_rfl) (fun _ _ _ h => h) (by rfl) hHeld ?_
          simp only [Act.put, List.setIfInBounds_toArray, List.set_cons_zero, List.set_cons_succ]
          refine take_not 11 28 rfl rfl (by kernel_rfl) (by kernel_rfl) (by kernel_rfl) (fun _ _ _ h => h) (by rfl) hHeld ?_
          simp only [Act.put, List.setIfInBounds_toArray, List.set_cons_zero, List.set_cons_succ]
          refine take_not 12 29 rfl rfl (by kernel_rfl) (by kernel_rfl) (by kernel_rfl) (fun _ _ _ h => h) (by rfl) hHeld ?_
          simp only [Act.put, List.setIfInBounds_toArray, List.set_cons_zero, List.set_cons_succ]
          refine take_not 13 30 rfl rfl (by kernel_rfl) (by kernel_rfl) (by kernel_rfl) (fun _ _ _ h => h) (by rfl) hHeld ?_
          simp only [Act.put, List.setIfInBounds_toArray, List.set_cons_zero, List.set_cons_succ]
          refine take_not 14 31 rfl rfl (by kernel_rfl) (by kernel_rfl) (by kernel_rfl) (fun _ _ _ h => h) (by rfl) hHeld ?_
          simp only [Act.put, List.setIfInBounds_toArray, List.set_cons_zero, List.set_cons_succ]
          refine take_not 15 32 rfl rfl (by kernel_rfl) (by kernel_rfl) (by kernel_rfl) (fun _ _ _ h => h) (by rfl) hHeld ?_
          simp only [Act.put, List.setIfInBounds_toArray, List.set_cons_zero, List.set_cons_succ]
          refine take_not 16 33 rfl rfl (by kernel_rfl) (by kernel_rfl) (by kernel_rfl) (fun _ _ _ h => h) (by rfl) hHeld ?_
          simp only [Act.put, List.setIfInBounds_toArray, List.set_cons_zero, List.set_cons_succ]
          refine take_not 17 34 rfl rfl (by kernel_rfl) (by kernel_rfl) (by kernel_rfl) (fun _ _ _ h => h) (by rfl) hHeld ?_
          simp only [Act.put, List.setIfInBounds_toArray, List.set_cons_zero, List.set_cons_succ]
          refine take_yes 18 35 (v := ?_) rfl rfl (by kernel_rfl) (by kernel_rfl) (by kernel_rfl) (fun _ _ _ h => h) (by rfl) ?_ hHeld ?_
          rotate_left
          · (intro w hSw; (try dsimp only at hSw); go_simp; try with_reducible rfl)
          simp only [Act.put, List.setIfInBounds_toArray, List.set_cons_zero, List.set_cons_succ]
          refine wpAnyH_done (by kernel_rfl) ?_ _
          all_goals
            go_wp2
            go_ret
            exact ⟨by rw [HF.out]; rfl, HGW.out.trans (by (repeat' (first | with_reducible exact Gr.refl _ | with_reducible refine Gr.set ?_ _ ?_ _ | with_reducible refine Gr.alloc ?_ | with_reducible refine Gr.drew ?_ | with_reducible refine Gr.trans ?_ (by assumption))) <;> (first | (simp; done) | (simp; omega) | omega))⟩
        | true =>
          have HKX : Hid (Led.mkOk A M[k] = true) := hacc
          have hM2 : ∀ w', Gr w w' → Calls Try.prog 71 #[.agg #[.string M[k].key, .int .i64 M[k].k, .string M[k].t, .int .i64 M[k].n, .int .i64 M[k].st], .func (.func 30) #[.slice adA A.length capA] #[]] w' fun e w2 => e = .returned (.bool true) ∧ Gr w' w2 := fun w' g => by have := hM w' g; rw [hacc] at this; exact this
          clear hM hacc
          by_cases hk0 : k = 0
          · have hz1 : decide ((0 : Int) < (k : Int)) = false := by simp; omega
            have hz2 : decide (0 < k) = false := by simp; omega
            have HK0 : Hid (k = 0) := hk0
            clear hk0
            generalize M[k] = x at d0 d1 d2 d3 d4 hM2
            have HM : Hid (∀ w', Gr w w' → Calls Try.prog 71 #[.agg #[.string x.key, .int .i64 x.k, .string x.t, .int .i64 x.n, .int .i64 x.st], .func (.func 30) #[.slice adA A.length capA] #[]] w' fun e w2 => e = .returned (.bool true) ∧ Gr w' w2) := hM2
            clear hM2
            go_wp2_with fail
            have X := FiveAt.new wr (.string x.key) (.int .i64 x.k) (.string x.t) (.int .i64 x.n) (.int .i64 x.st) 64 _ rfl
            obtain ⟨x0, x1, x2, x3, x4, _, _⟩ := X
            obtain ⟨W, hW⟩ : ∃ W, W = wr.alloc (.cells #[.string x.key, .int .i64 x.k, .string x.t, .int .i64 x.n, .int .i64 x.st] 64) := ⟨_, rfl⟩
            have HGW : Hid (Gr w W) := by show Gr _ _; rw [hW]; exact HG.out.alloc
            rw [← hW] at x0 x1 x2 x3 x4 ⊢
            clear hW d0 d1 d2 d3 d4
            refine wp_region_held_drew (S := (fun w' => Gr W w' ∧ w'.cell? ⟨wr.heap.size, 0, none⟩ = some (.string x.key) ∧ w'.cell? ⟨wr.heap.size, 1, none⟩ = some (.int .i64 x.k) ∧ w'.cell? ⟨wr.heap.size, 2, none⟩ = some (.string x.t) ∧ w'.cell? ⟨wr.heap.size, 3, none⟩ = some (.int .i64 x.n) ∧ w'.cell? ⟨wr.heap.size, 4, none⟩ = some (.int .i64 x.st))) (by kernel_rfl) (by exact hold5a (by (repeat' (first | with_reducible exact Gr.refl _ | with_reducible refine Gr.set ?_ _ ?_ _ | with_reducible refine Gr.alloc ?_ | with_reducible refine Gr.drew ?_ | with_reducible refine Gr.trans ?_ (by assumption))) <;> (first | (simp; done) | (simp; omega) | omega)) x0 x1 x2 x3 x4) (fun hHeld => ?_)
            refine take_yes 0 17 (v := ?_) rfl rfl (by kernel_rfl) (by kernel_rfl) (by kernel_rfl) (fun _ _ _ h => h) (by rfl) ?_ hHeld ?_
            rotate_left
            · (intro w hSw; (try dsimp only at hSw); go_simp; try with_reducible rfl)
            simp only [Act.put, List.setIfInBounds_toArray, List.set_cons_zero, List.set_cons_succ]
            refine take_yes 1 18 (v := ?_) rfl rfl (by kernel_rfl) (by kernel_rfl) (by kernel_rfl) (fun _ _ _ h => h) (by rfl) ?_ hHeld ?_
            rotate_left
            · (intro w hSw; (try dsimp only at hSw); go_simp; try with_reducible rfl)
            simp only [Act.put, List.setIfInBounds_toArray, List.set_cons_zero, List.set_cons_succ]
            refine wpAnyH_ready (rs := [2]) (by kernel_rfl) (by simp) (AllReadyH.cons rfl (fun K hK => ?_) AllReadyH.nil)
            go_simp
            (go_at_call 71; refine (HM.out _ (HGW.out.trans (by (repeat' (first | with_reducible exact Gr.refl _ | with_reducible refine Gr.set ?_ _ ?_ _ | with_reducible refine Gr.alloc ?_ | with_reducible refine Gr.drew ?_ | with_reducible refine Gr.trans ?_ (by assumption))) <;> (first | (simp; done) | (simp; omega) | omega)))).mono ?_; rintro e wn ⟨rfl, hgn⟩)
            (try go_wp2_with fail)
            refine hK.out _ _ (by exact hold5a (by (repeat' (first | with_reducible exact Gr.refl _ | with_reducible refine Gr.set ?_ _ ?_ _ | with_reducible refine Gr.alloc ?_ | with_reducible refine Gr.drew ?_ | with_reducible refine Gr.trans ?_ (by assumption))) <;> (first | (simp; done) | (simp; omega) | omega)) x0 x1 x2 x3 x4) (fun hHeldN => ?_)
            clear hHeld hK K
            have hHeld := hHeldN
            clear hHeldN
            refine take_yes 3 20 (v := ?_) rfl rfl (by kernel_rfl) (by kernel_rfl) (by kernel_rfl) (fun _ _ _ h => h) (by rfl) ?_ hHeld ?_
            rotate_left
            · (intro w hSw; (try dsimp only at hSw); go_simp; try with_reducible rfl)
            simp only [Act.put, List.setIfInBounds_toArray, List.set_cons_zero, List.set_cons_succ]
            refine take_yes 4 21 (v := ?_) rfl rfl (by kernel_rfl) (by kernel_rfl) (by kernel_rfl) (fun _ _ _ h => h) (by rfl) ?_ hHeld ?_
            rotate_left
            · (intro w hSw; (try dsimp only at hSw); go_simp; try with_reducible rfl)
            simp only [Act.put, List.setIfInBounds_toArray, List.set_cons_zero, List.set_cons_succ]
            refine take_yes 5 22 (v := ?_) rfl rfl (by kernel_rfl) (by kernel_rfl) (by kernel_rfl) (fun _ _ _ h => h) (by rfl) ?_ hHeld ?_
            rotate_left
            · (intro w hSw; (try dsimp only at hSw); go_simp; try with_reducible rfl)
            simp only [Act.put, List.setIfInBounds_toArray, List.set_cons_zero, List.set_cons_succ]
            refine take_yes 6 23 (v := ?_) rfl rfl (by kernel_rfl) (by kernel_rfl) (by kernel_rfl) (fun _ _ _ h => h) (by rfl) ?_ hHeld ?_
            rotate_left
            · (intro w hSw; (try dsimp only at hSw); go_simp; try with_reducible rfl)
            simp only [Act.put, List.setIfInBounds_toArray, List.set_cons_zero, List.set_cons_succ]
            refine take_yes 7 24 (v := ?_) rfl rfl (by kernel_rfl) (by kernel_rfl) (by kernel_rfl) (fun _ _ _ h => h) (by rfl) ?_ hHeld ?_
            rotate_left
            · (intro w hSw; (try dsimp only at hSw); go_simp; try with_reducible rfl)
            simp only [Act.put, List.setIfInBounds_toArray, List.set_cons_zero, List.set_cons_succ]
            refine take_not 8 25 rfl rfl (by kernel_rfl) (by kernel_rfl) (by kernel_rfl) (fun _ _ _ h => h) (by rfl) hHeld ?_
            simp only [Act.put, List.setIfInBounds_toArray, List.set_cons_zero, List.set_cons_succ]
            refine take_not 9 26 rfl rfl (by kernel_rfl) (by kernel_rfl) (by kernel_rfl) (fun _ _ _ h => h) (by rfl) hHeld ?_
            simp only [Act.put, List.setIfInBounds_toArray, List.set_cons_zero, List.set_cons_succ]
            refine take_not 10 27 rfl rfl (by kernel_rfl) (by kernel_rfl) (by kernel_rfl) (fun _ _ _ h => h) (by rfl) hHeld ?_
            simp only [Act.put, List.setIfInBounds_toArray, List.set_cons_zero, List.set_cons_succ]
            refine take_not 11 28 rfl rfl (by kernel_rfl) (by kernel_rfl) (by kernel_rfl) (fun _ _ _ h => h) (by rfl) hHeld ?_
            simp only [Act.put, List.setIfInBounds_toArray, List.set_cons_zero, List.set_cons_succ]
            refine take_not 12 29 rfl rfl (by kernel_rfl) (by kernel_rfl) (by kernel_rfl) (fun _ _ _ h => h) (by rfl) hHeld ?_
            simp only [Act.put, List.setIfInBounds_toArray, List.set_cons_zero, List.set_cons_succ]
            refine take_not 13 30 rfl rfl (by kernel_rfl) (by kernel_rfl) (by kernel_rfl) (fun _ _ _ h => h) (by rfl) hHeld ?_
            simp only [Act.put, List.setIfInBounds_toArray, List.set_cons_zero, List.set_cons_succ]
            refine take_not 14 31 rfl rfl (by kernel_rfl) (by kernel_rfl) (by kernel_rfl) (fun _ _ _ h => h) (by rfl) hHeld ?_
            simp only [Act.put, List.setIfInBounds_toArray, List.set_cons_zero, List.set_cons_succ]
            refine take_not 15 32 rfl rfl (by kernel_rfl) (by kernel_rfl) (by kernel_rfl) (fun _ _ _ h => h) (by rfl) hHeld ?_
            simp only [Act.put, List.setIfInBounds_toArray, List.set_cons_zero, List.set_cons_succ]
            refine take_not 16 33 rfl rfl (by kernel_rfl) (by kernel_rfl) (by kernel_rfl) (fun _ _ _ h => h) (by rfl) hHeld ?_
            simp only [Act.put, List.setIfInBounds_toArray, List.set_cons_zero, List.set_cons_succ]
            refine take_yes 17 34 (v := ?_) rfl rfl (by kernel_rfl) (by kernel_rfl) (by kernel_rfl) (fun _ _ _ h => h) (by rfl) ?_ hHeld ?_
            rotate_left
            · (intro w hSw; (try dsimp only at hSw); go_simp; try with_reducible rfl)
            simp only [Act.put, List.setIfInBounds_toArray, List.set_cons_zero, List.set_cons_succ]
            refine take_yes 18 35 (v := ?_) rfl rfl (by kernel_rfl) (by kernel_rfl) (by kernel_rfl) (fun _ _ _ h => h) (by rfl) ?_ hHeld ?_
            rotate_left
            · (intro w hSw; (try dsimp only at hSw); go_simp; try with_reducible rfl)
            simp only [Act.put, List.setIfInBounds_toArray, List.set_cons_zero, List.set_cons_succ]
            refine wpAnyH_done (by kernel_rfl) ?_ _
            go_wp2
            go_roundw
            case rel =>
              have hk0 := HK0.out
              exact ⟨k + 1, by go_num, by omega, (fun j h hj => by
                by_cases e : j = k
                · subst e; exact HKX.out
                · exact HK.out j h (by omega)), (fun j h hj => by omega), HGW.out.trans (by (repeat' (first | with_reducible exact Gr.refl _ | with_reducible refine Gr.set ?_ _ ?_ _ | with_reducible refine Gr.alloc ?_ | with_reducible refine Gr.drew ?_ | with_reducible refine Gr.trans ?_ (by assumption))) <;> (first | (simp; done) | (simp; omega) | omega))⟩
            case measure => simp [intOf]; omega
          · obtain ⟨k', hk'⟩ : ∃ k', k = k' + 1 := ⟨k - 1, by omega⟩
            have hlt' : k' < M.length := by omega
            have hz1 : decide ((0 : Int) < (k : Int)) = true := by simp; omega
            have hz2 : decide (0 < k) = true := by simp; omega
            have hz3 : IntKind.i64.wrap (k' : Int) = (k' : Int) := by rw [IntKind.wrap_i64]; omega
            have hz4 : (k : Int) - 1 = (k' : Int) := by omega
            have hz5 : (k' : Int) < (M.length : Int) := by omega
            obtain ⟨b', off', e', _, c0, _⟩ := (MksAt.at HL.out k' hlt')
            cases e'
            have c0 := HG.out.keep c0
            have HLT0 : Hid (Led.lt M[k'].key M[k].key = true → ∀ (j : Nat) (h : j + 1 < M.length), j + 1 = k → Led.lt M[j].key M[j + 1].key = true) := by
              intro hl j h e
              subst e
              obtain rfl : k' = j := by omega
              exact hl
            have HLF : Hid (Led.lt M[k'].key M[k].key = false → Led.mksB A M = false) := by
              intro hl
              cases hb : Led.mksB A M with
              | false => rfl
              | true =>
                obtain ⟨_, _, h3⟩ := (Led.mks_iff A M).1 hb
                have := (Led.up_iff _).1 h3 k' (by rw [Led.ky_len]; omega)
                rw [Led.ky_get M k' (by omega), Led.ky_get M (k' + 1) (by omega)] at this
                subst hk'
                rw [this] at hl; cases hl
            have hbl : Op.bytesLess M[k'].key.toList M[k].key.toList = Led.lt M[k'].key M[k].key := rfl
            generalize M[k'].key = y at c0 HLT0 HLF hbl
            generalize M[k] = x at d0 d1 d2 d3 d4 hM2 HLT0 HLF hbl
            have HM : Hid (∀ w', Gr w w' → Calls Try.prog 71 #[.agg #[.string x.key, .int .i64 x.k, .string x.t, .int .i64 x.n, .int .i64 x.st], .func (.func 30) #[.slice adA A.length capA] #[]] w' fun e w2 => e = .returned (.bool true) ∧ Gr w' w2) := hM2
            clear hM2 hk0
            cases hl : Led.lt y x.key with
            | false =>
              rw [hl] at hbl
              have HF : Hid (Led.mksB A M = false) := HLF.out hl
              clear HLF HLT0 hl hk'
              go_wp2_with fail
              have X := FiveAt.new wr (.string x.key) (.int .i64 x.k) (.string x.t) (.int .i64 x.n) (.int .i64 x.st) 64 _ rfl
              obtain ⟨x0, x1, x2, x3, x4, _, _⟩ := X
              obtain ⟨W, hW⟩ : ∃ W, W = wr.alloc (.cells #[.string x.key, .int .i64 x.k, .string x.t, .int .i64 x.n, .int .i64 x.st] 64) := ⟨_, rfl⟩
              have HGW : Hid (Gr w W) := by show Gr _ _; rw [hW]; exact HG.out.alloc
              have c0 := (Gr.refl wr).alloc (o := .cells #[.string x.key, .int .i64 x.k, .string x.t, .int .i64 x.n, .int .i64 x.st] 64) |>.keep c0
              rw [← hW] at x0 x1 x2 x3 x4 c0 ⊢
              clear hW d0 d1 d2 d3 d4
              refine wp_region_held_drew (S := (fun w' => Gr W w' ∧ w'.cell? ⟨wr.heap.size, 0, none⟩ = some (.string x.key) ∧ w'.cell? ⟨wr.heap.size, 1, none⟩ = some (.int .i64 x.k) ∧ w'.cell? ⟨wr.heap.size, 2, none⟩ = some (.string x.t) ∧ w'.cell? ⟨wr.heap.size, 3, none⟩ = some (.int .i64 x.n) ∧ w'.cell? ⟨wr.heap.size, 4, none⟩ = some (.int .i64 x.st) ∧ w'.cell? ⟨b, off + k' * 5, none⟩ = some (.string y))) (by kernel_rfl) (by exact hold6a (by (repeat' (first | with_reducible exact Gr.refl _ | with_reducible refine Gr.set ?_ _ ?_ _ | with_reducible refine Gr.alloc ?_ | with_reducible refine Gr.drew ?_ | with_reducible refine Gr.trans ?_ (by assumption))) <;> (first | (simp; done) | (simp; omega) | omega)) x0 x1 x2 x3 x4 c0) (fun hHeld => ?_)
              refine take_yes 0 17 (v := ?_) rfl rfl (by kernel_rfl) (by kernel_rfl) (by kernel_rfl) (fun _ _ _ h => h) (by rfl) ?_ hHeld ?_
              rotate_left
              · (intro w hSw; (try dsimp only at hSw); go_simp; try with_reducible rfl)
              simp only [Act.put, List.setIfInBounds_toArray, List.set_cons_zero, List.set_cons_succ]
              refine take_yes 1 18 (v := ?_) rfl rfl (by kernel_rfl) (by kernel_rfl) (by kernel_rfl) (fun _ _ _ h => h) (by rfl) ?_ hHeld ?_
              rotate_left
              · (intro w hSw; (try dsimp only at hSw); go_simp; try with_reducible rfl)
              simp only [Act.put, List.setIfInBounds_toArray, List.set_cons_zero, List.set_cons_succ]
              refine wpAnyH_ready (rs := [2]) (by kernel_rfl) (by simp) (AllReadyH.cons rfl (fun K hK => ?_) AllReadyH.nil)
              go_simp
              (go_at_call 71; refine (HM.out _ (HGW.out.trans (by (repeat' (first | with_reducible exact Gr.refl _ | with_reducible refine Gr.set ?_ _ ?_ _ | with_reducible refine Gr.alloc ?_ | with_reducible refine Gr.drew ?_ | with_reducible refine Gr.trans ?_ (by assumption))) <;> (first | (simp; done) | (simp; omega) | omega)))).mono ?_; rintro e wn ⟨rfl, hgn⟩)
              (try go_wp2_with fail)
              refine hK.out _ _ (by exact hold6a (by (repeat' (first | with_reducible exact Gr.refl _ | with_reducible refine Gr.set ?_ _ ?_ _ | with_reducible refine Gr.alloc ?_ | with_reducible refine Gr.drew ?_ | with_reducible refine Gr.trans ?_ (by assumption))) <;> (first | (simp; done) | (simp; omega) | omega)) x0 x1 x2 x3 x4 c0) (fun hHeldN => ?_)
              clear hHeld hK K
              have hHeld := hHeldN
              clear hHeldN
              refine take_yes 3 20 (v := ?_) rfl rfl (by kernel_rfl) (by kernel_rfl) (by kernel_rfl) (fun _ _ _ h => h) (by rfl) ?_ hHeld ?_
              rotate_left
              · (intro w hSw; (try dsimp only at hSw); go_simp; try with_reducible rfl)
              simp only [Act.put, List.setIfInBounds_toArray, List.set_cons_zero, List.set_cons_succ]
              refine take_yes 4 21 (v := ?_) rfl rfl (by kernel_rfl) (by kernel_rfl) (by kernel_rfl) (fun _ _ _ h => h) (by rfl) ?_ hHeld ?_
              rotate_left
              · (intro w hSw; (try dsimp only at hSw); go_simp; try with_reducible rfl)
              simp only [Act.put, List.setIfInBounds_toArray, List.set_cons_zero, List.set_cons_succ]
              refine take_yes 5 22 (v := ?_) rfl rfl (by kernel_rfl) (by kernel_rfl) (by kernel_rfl) (fun _ _ _ h => h) (by rfl) ?_ hHeld ?_
              rotate_left
              · (intro w hSw; (try dsimp only at hSw); go_simp; try with_reducible rfl)
              simp only [Act.put, List.setIfInBounds_toArray, List.set_cons_zero, List.set_cons_succ]
              refine take_yes 6 23 (v := ?_) rfl rfl (by kernel_rfl) (by kernel_rfl) (by kernel_rfl) (fun _ _ _ h => h) (by rfl) ?_ hHeld ?_
              rotate_left
              · (intro w hSw; (try dsimp only at hSw); go_simp; try with_reducible rfl)
              simp only [Act.put, List.setIfInBounds_toArray, List.set_cons_zero, List.set_cons_succ]
              refine take_yes 7 24 (v := ?_) rfl rfl (by kernel_rfl) (by kernel_rfl) (by kernel_rfl) (fun _ _ _ h => h) (by rfl) ?_ hHeld ?_
              rotate_left
              · (intro w hSw; (try dsimp only at hSw); go_simp; try with_reducible rfl)
              simp only [Act.put, List.setIfInBounds_toArray, List.set_cons_zero, List.set_cons_succ]
              refine take_yes 8 25 (v := ?_) rfl rfl (by kernel_rfl) (by kernel_rfl) (by kernel_rfl) (fun _ _ _ h => h) (by rfl) ?_ hHeld ?_
              rotate_left
              · (intro w hSw; (try dsimp only at hSw); go_simp; try with_reducible rfl)
              simp only [Act.put, List.setIfInBounds_toArray, List.set_cons_zero, List.set_cons_succ]
              refine take_yes 9 26 (v := ?_) rfl rfl (by kernel_rfl) (by kernel_rfl) (by kernel_rfl) (fun _ _ _ h => h) (by rfl) ?_ hHeld ?_
              rotate_left
              · (intro w hSw; (try dsimp only at hSw); go_simp; try with_reducible rfl)
              simp only [Act.put, List.setIfInBounds_toArray, List.set_cons_zero, List.set_cons_succ]
              refine take_yes 10 27 (v := ?_) rfl rfl (by kernel_rfl) (by kernel_rfl) (by kernel_rfl) (fun _ _ _ h => h) (by rfl) ?_ hHeld ?_
              rotate_left
              · (intro w hSw; (try dsimp only at hSw); go_simp; try with_reducible rfl)
              simp only [Act.put, List.setIfInBounds_toArray, List.set_cons_zero, List.set_cons_succ]
              refine take_yes 11 28 (v := ?_) rfl rfl (by kernel_rfl) (by kernel_rfl) (by kernel_rfl) (fun _ _ _ h => h) (by rfl) ?_ hHeld ?_
              rotate_left
              · (intro w hSw; (try dsimp only at hSw); go_simp; try with_reducible rfl)
              simp only [Act.put, List.setIfInBounds_toArray, List.set_cons_zero, List.set_cons_succ]
              refine take_yes 12 29 (v := ?_) rfl rfl (by kernel_rfl) (by kernel_rfl) (by kernel_rfl) (fun _ _ _ h => h) (by rfl) ?_ hHeld ?_
              rotate_left
              · (intro w hSw; (try dsimp only at hSw); go_simp; try with_reducible rfl)
              simp only [Act.put, List.setIfInBounds_toArray, List.set_cons_zero, List.set_cons_succ]
              refine take_yes 13 30 (v := ?_) rfl rfl (by kernel_rfl) (by kernel_rfl) (by kernel_rfl) (fun _ _ _ h => h) (by rfl) ?_ hHeld ?_
              rotate_left
              · (intro w hSw; (try dsimp only at hSw); go_simp; try with_reducible rfl)
              simp only [Act.put, List.setIfInBounds_toArray, List.set_cons_zero, List.set_cons_succ]
              refine take_yes 14 31 (v := ?_) rfl rfl (by kernel_rfl) (by kernel_rfl) (by kernel_rfl) (fun _ _ _ h => h) (by rfl) ?_ hHeld ?_
              rotate_left
              · (intro w hSw; (try dsimp only at hSw); go_simp; try with_reducible rfl)
              simp only [Act.put, List.setIfInBounds_toArray, List.set_cons_zero, List.set_cons_succ]
              refine take_yes 15 32 (v := ?_) rfl rfl (by kernel_rfl) (by kernel_rfl) (by kernel_rfl) (fun _ _ _ h => h) (by rfl) ?_ hHeld ?_
              rotate_left
              · (intro w hSw; (try dsimp only at hSw); go_simp; try with_reducible rfl)
              simp only [Act.put, List.setIfInBounds_toArray, List.set_cons_zero, List.set_cons_succ]
              refine take_yes 16 33 (v := ?_) rfl rfl (by kernel_rfl) (by kernel_rfl) (by kernel_rfl) (fun _ _ _ h => h) (by rfl) ?_ hHeld ?_
              rotate_left
              · (intro w hSw; (try dsimp only at hSw); go_simp; try with_reducible rfl)
              simp only [Act.put, List.setIfInBounds_toArray, List.set_cons_zero, List.set_cons_succ]
              refine take_yes 17 34 (v := ?_) rfl rfl (by kernel_rfl) (by kernel_rfl) (by kernel_rfl) (fun _ _ _ h => h) (by rfl) ?_ hHeld ?_
              rotate_left
              · (intro w hSw; (try dsimp only at hSw); go_simp; try with_reducible rfl)
              simp only [Act.put, List.setIfInBounds_toArray, List.set_cons_zero, List.set_cons_succ]
              refine take_yes 18 35 (v := ?_) rfl rfl (by kernel_rfl) (by kernel_rfl) (by kernel_rfl) (fun _ _ _ h => h) (by rfl) ?_ hHeld ?_
              rotate_left
              · (intro w hSw; (try dsimp only at hSw); go_simp; try with_reducible rfl)
              simp only [Act.put, List.setIfInBounds_toArray, List.set_cons_zero, List.set_cons_succ]
              refine wpAnyH_done (by kernel_rfl) ?_ _
              go_wp2
              go_ret
              exact ⟨by rw [HF.out]; rfl, HGW.out.trans (by (repeat' (first | with_reducible exact Gr.refl _ | with_reducible refine Gr.set ?_ _ ?_ _ | with_reducible refine Gr.alloc ?_ | with_reducible refine Gr.drew ?_ | with_reducible refine Gr.trans ?_ (by assumption))) <;> (first | (simp; done) | (simp; omega) | omega))⟩
            | true =>
              rw [hl] at hbl
              have HLT : Hid (∀ (j : Nat) (h : j + 1 < M.length), j + 1 = k → Led.lt M[j].key M[j + 1].key = true) := HLT0.out hl
              clear HLF HLT0 hl hk'
              go_wp2_with fail
              have X := FiveAt.new wr (.string x.key) (.int .i64 x.k) (.string x.t) (.int .i64 x.n) (.int .i64 x.st) 64 _ rfl
              obtain ⟨x0, x1, x2, x3, x4, _, _⟩ := X
              obtain ⟨W, hW⟩ : ∃ W, W = wr.alloc (.cells #[.string x.key, .int .i64 x.k, .string x.t, .int .i64 x.n, .int .i64 x.st] 64) := ⟨_, rfl⟩
              have HGW : Hid (Gr w W) := by show Gr _ _; rw [hW]; exact HG.out.alloc
              have c0 := (Gr.refl wr).alloc (o := .cells #[.string x.key, .int .i64 x.k, .string x.t, .int .i64 x.n, .int .i64 x.st] 64) |>.keep c0
              rw [← hW] at x0 x1 x2 x3 x4 c0 ⊢
              clear hW d0 d1 d2 d3 d4
              refine wp_region_held_drew (S := (fun w' => Gr W w' ∧ w'.cell? ⟨wr.heap.size, 0, none⟩ = some (.string x.key) ∧ w'.cell? ⟨wr.heap.size, 1, none⟩ = some (.int .i64 x.k) ∧ w'.cell? ⟨wr.heap.size, 2, none⟩ = some (.string x.t) ∧ w'.cell? ⟨wr.heap.size, 3, none⟩ = some (.int .i64 x.n) ∧ w'.cell? ⟨wr.heap.size, 4, none⟩ = some (.int .i64 x.st) ∧ w'.cell? ⟨b, off + k' * 5, none⟩ = some (.string y))) (by kernel_rfl) (by exact hold6a (by (repeat' (first | with_reducible exact Gr.refl _ | with_reducible refine Gr.set ?_ _ ?_ _ | with_reducible refine Gr.alloc ?_ | with_reducible refine Gr.drew ?_ | with_reducible refine Gr.trans ?_ (by assumption))) <;> (first | (simp; done) | (simp; omega) | omega)) x0 x1 x2 x3 x4 c0) (fun hHeld => ?_)
              refine take_yes 0 17 (v := ?_) rfl rfl (by kernel_rfl) (by kernel_rfl) (by kernel_rfl) (fun _ _ _ h => h) (by rfl) ?_ hHeld ?_
              rotate_left
              · (intro w hSw; (try dsimp only at hSw); go_simp; try with_reducible rfl)
              simp only [Act.put, List.setIfInBounds_toArray, List.set_cons_zero, List.set_cons_succ]
              refine take_yes 1 18 (v := ?_) rfl rfl (by kernel_rfl) (by kernel_rfl) (by kernel_rfl) (fun _ _ _ h => h) (by rfl) ?_ hHeld ?_
              rotate_left
              · (intro w hSw; (try dsimp only at hSw); go_simp; try with_reducible rfl)
              simp only [Act.put, List.setIfInBounds_toArray, List.set_cons_zero, List.set_cons_succ]
              refine wpAnyH_ready (rs := [2]) (by kernel_rfl) (by simp) (AllReadyH.cons rfl (fun K hK => ?_) AllReadyH.nil)
              go_simp
              (go_at_call 71; refine (HM.out _ (HGW.out.trans (by (repeat' (first | with_reducible exact Gr.refl _ | with_reducible refine Gr.set ?_ _ ?_ _ | with_reducible refine Gr.alloc ?_ | with_reducible refine Gr.drew ?_ | with_reducible refine Gr.trans ?_ (by assumption))) <;> (first | (simp; done) | (simp; omega) | omega)))).mono ?_; rintro e wn ⟨rfl, hgn⟩)
              (try go_wp2_with fail)
              refine hK.out _ _ (by exact hold6a (by (repeat' (first | with_reducible exact Gr.refl _ | with_reducible refine Gr.set ?_ _ ?_ _ | with_reducible refine Gr.alloc ?_ | with_reducible refine Gr.drew ?_ | with_reducible refine Gr.trans ?_ (by assumption))) <;> (first | (simp; done) | (simp; omega) | omega)) x0 x1 x2 x3 x4 c0) (fun hHeldN => ?_)
              clear hHeld hK K
              have hHeld := hHeldN
              clear hHeldN
              refine take_yes 3 20 (v := ?_) rfl rfl (by kernel_rfl) (by kernel_rfl) (by kernel_rfl) (fun _ _ _ h => h) (by rfl) ?_ hHeld ?_
              rotate_left
              · (intro w hSw; (try dsimp only at hSw); go_simp; try with_reducible rfl)
              simp only [Act.put, List.setIfInBounds_toArray, List.set_cons_zero, List.set_cons_succ]
              refine take_yes 4 21 (v := ?_) rfl rfl (by kernel_rfl) (by kernel_rfl) (by kernel_rfl) (fun _ _ _ h => h) (by rfl) ?_ hHeld ?_
              rotate_left
              · (intro w hSw; (try dsimp only at hSw); go_simp; try with_reducible rfl)
              simp only [Act.put, List.setIfInBounds_toArray, List.set_cons_zero, List.set_cons_succ]
              refine take_yes 5 22 (v := ?_) rfl rfl (by kernel_rfl) (by kernel_rfl) (by kernel_rfl) (fun _ _ _ h => h) (by rfl) ?_ hHeld ?_
              rotate_left
              · (intro w hSw; (try dsimp only at hSw); go_simp; try with_reducible rfl)
              simp only [Act.put, List.setIfInBounds_toArray, List.set_cons_zero, List.set_cons_succ]
              refine take_yes 6 23 (v := ?_) rfl rfl (by kernel_rfl) (by kernel_rfl) (by kernel_rfl) (fun _ _ _ h => h) (by rfl) ?_ hHeld ?_
              rotate_left
              · (intro w hSw; (try dsimp only at hSw); go_simp; try with_reducible rfl)
              simp only [Act.put, List.setIfInBounds_toArray, List.set_cons_zero, List.set_cons_succ]
              refine take_yes 7 24 (v := ?_) rfl rfl (by kernel_rfl) (by kernel_rfl) (by kernel_rfl) (fun _ _ _ h => h) (by rfl) ?_ hHeld ?_
              rotate_left
              · (intro w hSw; (try dsimp only at hSw); go_simp; try with_reducible rfl)
              simp only [Act.put, List.setIfInBounds_toArray, List.set_cons_zero, List.set_cons_succ]
              refine take_yes 8 25 (v := ?_) rfl rfl (by kernel_rfl) (by kernel_rfl) (by kernel_rfl) (fun _ _ _ h => h) (by rfl) ?_ hHeld ?_
              rotate_left
              · (intro w hSw; (try dsimp only at hSw); go_simp; try with_reducible rfl)
              simp only [Act.put, List.setIfInBounds_toArray, List.set_cons_zero, List.set_cons_succ]
              refine take_yes 9 26 (v := ?_) rfl rfl (by kernel_rfl) (by kernel_rfl) (by kernel_rfl) (fun _ _ _ h => h) (by rfl) ?_ hHeld ?_
              rotate_left
              · (intro w hSw; (try dsimp only at hSw); go_simp; try with_reducible rfl)
              simp only [Act.put, List.setIfInBounds_toArray, List.set_cons_zero, List.set_cons_succ]
              refine take_yes 10 27 (v := ?_) rfl rfl (by kernel_rfl) (by kernel_rfl) (by kernel_rfl) (fun _ _ _ h => h) (by rfl) ?_ hHeld ?_
              rotate_left
              · (intro w hSw; (try dsimp only at hSw); go_simp; try with_reducible rfl)
              simp only [Act.put, List.setIfInBounds_toArray, List.set_cons_zero, List.set_cons_succ]
              refine take_yes 11 28 (v := ?_) rfl rfl (by kernel_rfl) (by kernel_rfl) (by kernel_rfl) (fun _ _ _ h => h) (by rfl) ?_ hHeld ?_
              rotate_left
              · (intro w hSw; (try dsimp only at hSw); go_simp; try with_reducible rfl)
              simp only [Act.put, List.setIfInBounds_toArray, List.set_cons_zero, List.set_cons_succ]
              refine take_yes 12 29 (v := ?_) rfl rfl (by kernel_rfl) (by kernel_rfl) (by kernel_rfl) (fun _ _ _ h => h) (by rfl) ?_ hHeld ?_
              rotate_left
              · (intro w hSw; (try dsimp only at hSw); go_simp; try with_reducible rfl)
              simp only [Act.put, List.setIfInBounds_toArray, List.set_cons_zero, List.set_cons_succ]
              refine take_yes 13 30 (v := ?_) rfl rfl (by kernel_rfl) (by kernel_rfl) (by kernel_rfl) (fun _ _ _ h => h) (by rfl) ?_ hHeld ?_
              rotate_left
              · (intro w hSw; (try dsimp only at hSw); go_simp; try with_reducible rfl)
              simp only [Act.put, List.setIfInBounds_toArray, List.set_cons_zero, List.set_cons_succ]
              refine take_yes 14 31 (v := ?_) rfl rfl (by kernel_rfl) (by kernel_rfl) (by kernel_rfl) (fun _ _ _ h => h) (by rfl) ?_ hHeld ?_
              rotate_left
              · (intro w hSw; (try dsimp only at hSw); go_simp; try with_reducible rfl)
              simp only [Act.put, List.setIfInBounds_toArray, List.set_cons_zero, List.set_cons_succ]
              refine take_yes 15 32 (v := ?_) rfl rfl (by kernel_rfl) (by kernel_rfl) (by kernel_rfl) (fun _ _ _ h => h) (by rfl) ?_ hHeld ?_
              rotate_left
              · (intro w hSw; (try dsimp only at hSw); go_simp; try with_reducible rfl)
              simp only [Act.put, List.setIfInBounds_toArray, List.set_cons_zero, List.set_cons_succ]
              refine take_yes 16 33 (v := ?_) rfl rfl (by kernel_rfl) (by kernel_rfl) (by kernel_rfl) (fun _ _ _ h => h) (by rfl) ?_ hHeld ?_
              rotate_left
              · (intro w hSw; (try dsimp only at hSw); go_simp; try with_reducible rfl)
              simp only [Act.put, List.setIfInBounds_toArray, List.set_cons_zero, List.set_cons_succ]
              refine take_yes 17 34 (v := ?_) rfl rfl (by kernel_rfl) (by kernel_rfl) (by kernel_rfl) (fun _ _ _ h => h) (by rfl) ?_ hHeld ?_
              rotate_left
              · (intro w hSw; (try dsimp only at hSw); go_simp; try with_reducible rfl)
              simp only [Act.put, List.setIfInBounds_toArray, List.set_cons_zero, List.set_cons_succ]
              refine take_yes 18 35 (v := ?_) rfl rfl (by kernel_rfl) (by kernel_rfl) (by kernel_rfl) (fun _ _ _ h => h) (by rfl) ?_ hHeld ?_
              rotate_left
              · (intro w hSw; (try dsimp only at hSw); go_simp; try with_reducible rfl)
              simp only [Act.put, List.setIfInBounds_toArray, List.set_cons_zero, List.set_cons_succ]
              refine wpAnyH_done (by kernel_rfl) ?_ _
              go_wp2
              go_roundw
              case rel =>
                exact ⟨k + 1, by go_num, by omega, (fun j h hj => by
                  by_cases e : j = k
                  · subst e; exact HKX.out
                  · exact HK.out j h (by omega)), (fun j h hj => by
                  by_cases e : j + 1 = k
                  · exact HLT.out j h e
                  · exact HU.out j h (by omega)), HGW.out.trans (by (repeat' (first | with_reducible exact Gr.refl _ | with_reducible refine Gr.set ?_ _ ?_ _ | with_reducible refine Gr.alloc ?_ | with_reducible refine Gr.drew ?_ | with_reducible refine Gr.trans ?_ (by assumption))) <;> (first | (simp; done) | (simp; omega) | omega))⟩
              case measure => simp [intOf]; omega
      · have hge : ¬ ((k : Int) < (M.length : Int)) := by omega
        obtain rfl : k = M.length := by omega
        have HF : Hid (Led.mksB A M = true) := by
          refine (Led.mks_iff A M).2 ⟨by omega, ?_, (Led.up_iff _).2 ?_⟩
          · intro x hx
            obtain ⟨j, hj, rfl⟩ := List.getElem_of_mem hx
            exact HK.out j hj hj
          · intro j hj
            rw [Led.ky_len] at hj
            rw [Led.ky_get M j (by omega), Led.ky_get M (j + 1) hj]
            exact HU.out j hj hj
        go_wp2
        go_ret
        exact ⟨by rw [HF.out]; rfl, HG.out⟩
end Go.Proofs.Ytiakajheoajepaa
