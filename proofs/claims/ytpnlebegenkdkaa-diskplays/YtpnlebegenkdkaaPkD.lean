
/- The statements' own: does. -/
import Derived.Test.YtpnlebegenkdkaaPkA
namespace Go.Proofs.Ytpnlebegenkdkaa
open Go.RowKit Go.Maps
open Dk (Fl Fo St Ok Up zf used)
variable {a w w' : World} {b m r : Nat} {s t s' t' : St}

theorem ac_cells (w : World) (x : Ac) : (w.alloc (acC x)).cell? ⟨w.heap.size, 0, none⟩ = some (.int .i64 x.k) ∧ (w.alloc (acC x)).cell? ⟨w.heap.size, 1, none⟩ = some (.int .i64 x.n) ∧ (w.alloc (acC x)).cell? ⟨w.heap.size, 2, none⟩ = some (.int .i64 x.z) ∧ (w.alloc (acC x)).cell? ⟨w.heap.size, 3, none⟩ = some (.string x.d) ∧ (w.alloc (acC x)).cell? ⟨w.heap.size, 4, none⟩ = some (.slice x.ka x.K.length x.kc) := ⟨by simp, by simp, by simp, by simp, by simp⟩
theorem cells_td {x : Ac} {c : Nat} (hc : w.cell? ⟨c, 0, none⟩ = some (.int .i64 x.k) ∧ w.cell? ⟨c, 1, none⟩ = some (.int .i64 x.n) ∧ w.cell? ⟨c, 2, none⟩ = some (.int .i64 x.z) ∧ w.cell? ⟨c, 3, none⟩ = some (.string x.d) ∧ w.cell? ⟨c, 4, none⟩ = some (.slice x.ka x.K.length x.kc)) (hb : c ≠ b) (hm : c ≠ m) (k : Td w w' b m) :
    w'.cell? ⟨c, 0, none⟩ = some (.int .i64 x.k) ∧ w'.cell? ⟨c, 1, none⟩ = some (.int .i64 x.n) ∧ w'.cell? ⟨c, 2, none⟩ = some (.int .i64 x.z) ∧ w'.cell? ⟨c, 3, none⟩ = some (.string x.d) ∧ w'.cell? ⟨c, 4, none⟩ = some (.slice x.ka x.K.length x.kc) :=
  ⟨k.cell hb hm hc.1, k.cell hb hm hc.2.1, k.cell hb hm hc.2.2.1, k.cell hb hm hc.2.2.2.1, k.cell hb hm hc.2.2.2.2⟩
set_option maxHeartbeats 8000000 in
set_option maxRecDepth 100000 in
theorem does_0 (hp : Pq a w b m r s s) (x : Ac) (hab : Ab a x) (hk : x.k = 0) : Calls Try.prog 13 #[ptr b, ptr r, .agg #[.int .i64 x.k, .int .i64 x.n, .int .i64 x.z, .string x.d, .slice x.ka x.K.length x.kc]] w fun e w' => e = .returned (.bool true) ∧ Pq a w' b m r (plS s x) (plS s x) := by
  rw [pl0 hk]
  have hx := hab.in_
  have hd1 := hab.d1
  have hkb := hab.kb
  obtain ⟨A, hA0⟩ := hp.nw.at_
  have hbl := hA0.lt
  have hml := hA0.fl.lt
  have H1 : Hid (Calls Try.prog 18 #[ptr b, .int .i64 x.n, .string x.d] (w.alloc (acC x)).drew fun e w' => e = .returned (.int .i64 (Dk.appE s x.n x.d)) ∧ Pq a w' b m r (Dk.appS s x.n x.d) s ∧ Td (w.alloc (acC x)).drew w' b m) := by
    have hA := hA0.gr (Gr.refl w).alloc.drew (w' := (w.alloc (acC x)).drew)
    refine (append_any hA x.n x.d).mono ?_
    rintro e w2 ⟨rfl, q⟩
    exact ⟨rfl, (hp.up (Gr.refl w).alloc.drew).far q, q.2⟩
  have H2 : Hid (∀ w2, Pq a w2 b m r (Dk.appS s x.n x.d) s → Calls Try.prog 31 #[ptr r, .int .i64 x.n, .string x.d] w2 fun e w' => e = .returned (.int .i64 (Dk.appE s x.n x.d)) ∧ Pq a w' b m r (Dk.appS s x.n x.d) (Dk.appS s x.n x.d) ∧ Tr w2 w' r) := fun w2 h2 => pq_rap h2 x.n x.d hd1
  have HC0 := Lib.hid (ac_cells w x)
  have HNe : Hid (w.heap.size ≠ b ∧ w.heap.size ≠ m) := ⟨by omega, by omega⟩
  have HNr : Hid (w.heap.size ≠ r) := by obtain ⟨fa, fc, ka, kc, hr⟩ := hp.rf; have := hr.lt; show _ ≠ _; omega
  have HS0 : Hid ((w.alloc (acC x)).drew.cell? ⟨w.heap.size, 1, none⟩ = some (.int .i64 x.n) ∧ (w.alloc (acC x)).drew.cell? ⟨w.heap.size, 2, none⟩ = some (.int .i64 x.z) ∧ (w.alloc (acC x)).drew.cell? ⟨w.heap.size, 3, none⟩ = some (.string x.d) ∧ (w.alloc (acC x)).drew.cell? ⟨w.heap.size, 4, none⟩ = some (.slice x.ka x.K.length x.kc)) := HC0.out.2
  have HS1 : Hid (∀ w2, Td (w.alloc (acC x)).drew w2 b m → w2.cell? ⟨w.heap.size, 1, none⟩ = some (.int .i64 x.n) ∧ w2.cell? ⟨w.heap.size, 2, none⟩ = some (.int .i64 x.z) ∧ w2.cell? ⟨w.heap.size, 3, none⟩ = some (.string x.d) ∧ w2.cell? ⟨w.heap.size, 4, none⟩ = some (.slice x.ka x.K.length x.kc)) := fun w2 k => (cells_td (w := (w.alloc (acC x)).drew) HC0.out HNe.out.1 HNe.out.2 k).2
  have HS2 : Hid (∀ w2 w3, Td (w.alloc (acC x)).drew w2 b m → Tr w2 w3 r → w3.cell? ⟨w.heap.size, 1, none⟩ = some (.int .i64 x.n) ∧ w3.cell? ⟨w.heap.size, 2, none⟩ = some (.int .i64 x.z) ∧ w3.cell? ⟨w.heap.size, 3, none⟩ = some (.string x.d) ∧ w3.cell? ⟨w.heap.size, 4, none⟩ = some (.slice x.ka x.K.length x.kc)) := fun w2 w3 k k3 => by
    obtain ⟨q1, q2, q3, q4⟩ := HS1.out w2 k
    have ne : ∀ o, (some (⟨w.heap.size, o, none⟩ : Addr).block) ≠ some r := fun o e => HNr.out (by injection e)
    exact ⟨k3.cell q1 (ne 1), k3.cell q2 (ne 2), k3.cell q3 (ne 3), k3.cell q4 (ne 4)⟩
  clear hp hab hx hA0 hkb
  generalize Dk.appE s x.n x.d = eA at *
  generalize Dk.appS s x.n x.d = sA at *
  obtain ⟨xk, xn, xz, xd, xa, xc, xK⟩ := x
  simp only at *
  subst hk
  have hq : (eA == eA) = true := by simp
  go_enter Try.func13, Try.ntmps13
  go_upto_region 3 with fail
  refine wp_region_held_drew (S := (fun w' => w'.cell? ⟨w.heap.size, 1, none⟩ = some (.int .i64 xn) ∧ w'.cell? ⟨w.heap.size, 2, none⟩ = some (.int .i64 xz) ∧ w'.cell? ⟨w.heap.size, 3, none⟩ = some (.string xd) ∧ w'.cell? ⟨w.heap.size, 4, none⟩ = some (.slice xa xK.length xc))) (by kernel_rfl) (by first | with_reducible exact hHeld | with_reducible exact HS0.out | with_reducible exact HS2.out _ _ HT2.out HT3.out | with_reducible exact HS1.out _ HT2.out) (fun hHeld => ?_)
  refine take_yes 0 11 (v := ?_) rfl rfl (by kernel_rfl) (by kernel_rfl) (by kernel_rfl) (fun _ _ _ h => h) (by rfl) ?_ hHeld ?_
  rotate_left
  · (intro w hSw; (try dsimp only at hSw); go_simp; try with_reducible rfl)
  simp only [Act.put, List.setIfInBounds_toArray, List.set_cons_zero, List.set_cons_succ]
  refine take_yes 1 12 (v := ?_) rfl rfl (by kernel_rfl) (by kernel_rfl) (by kernel_rfl) (fun _ _ _ h => h) (by rfl) ?_ hHeld ?_
  rotate_left
  · (intro w hSw; (try dsimp only at hSw); go_simp; try with_reducible rfl)
  simp only [Act.put, List.setIfInBounds_toArray, List.set_cons_zero, List.set_cons_succ]
  refine take_yes 2 13 (v := ?_) rfl rfl (by kernel_rfl) (by kernel_rfl) (by kernel_rfl) (fun _ _ _ h => h) (by rfl) ?_ hHeld ?_
  rotate_left
  · (intro w hSw; (try dsimp only at hSw); go_simp; try with_reducible rfl)
  simp only [Act.put, List.setIfInBounds_toArray, List.set_cons_zero, List.set_cons_succ]
  refine take_yes 3 14 (v := ?_) rfl rfl (by kernel_rfl) (by kernel_rfl) (by kernel_rfl) (fun _ _ _ h => h) (by rfl) ?_ hHeld ?_
  rotate_left
  · (intro w hSw; (try dsimp only at hSw); go_simp; try with_reducible rfl)
  simp only [Act.put, List.setIfInBounds_toArray, List.set_cons_zero, List.set_cons_succ]
  refine take_yes 4 15 (v := ?_) rfl rfl (by kernel_rfl) (by kernel_rfl) (by kernel_rfl) (fun _ _ _ h => h) (by rfl) ?_ hHeld ?_
  rotate_left
  · (intro w hSw; (try dsimp only at hSw); go_simp; try with_reducible rfl)
  simp only [Act.put, List.setIfInBounds_toArray, List.set_cons_zero, List.set_cons_succ]
  refine take_yes 6 17 (v := ?_) rfl rfl (by kernel_rfl) (by kernel_rfl) (by kernel_rfl) (fun _ _ _ h => h) (by rfl) ?_ hHeld ?_
  rotate_left
  · (intro w hSw; (try dsimp only at hSw); go_simp; try with_reducible rfl)
  simp only [Act.put, List.setIfInBounds_toArray, List.set_cons_zero, List.set_cons_succ]
  refine take_yes 7 18 (v := ?_) rfl rfl (by kernel_rfl) (by kernel_rfl) (by kernel_rfl) (fun _ _ _ h => h) (by rfl) ?_ hHeld ?_
  rotate_left
  · (intro w hSw; (try dsimp only at hSw); go_simp; try with_reducible rfl)
  simp only [Act.put, List.setIfInBounds_toArray, List.set_cons_zero, List.set_cons_succ]
  refine take_yes 8 19 (v := ?_) rfl rfl (by kernel_rfl) (by kernel_rfl) (by kernel_rfl) (fun _ _ _ h => h) (by rfl) ?_ hHeld ?_
  rotate_left
  · (intro w hSw; (try dsimp only at hSw); go_simp; try with_reducible rfl)
  simp only [Act.put, List.setIfInBounds_toArray, List.set_cons_zero, List.set_cons_succ]
  refine take_yes 9 20 (v := ?_) rfl rfl (by kernel_rfl) (by kernel_rfl) (by kernel_rfl) (fun _ _ _ h => h) (by rfl) ?_ hHeld ?_
  rotate_left
  · (intro w hSw; (try dsimp only at hSw); go_simp; try with_reducible rfl)
  simp only [Act.put, List.setIfInBounds_toArray, List.set_cons_zero, List.set_cons_succ]
  refine take_yes 10 21 (v := ?_) rfl rfl (by kernel_rfl) (by kernel_rfl) (by kernel_rfl) (fun _ _ _ h => h) (by rfl) ?_ hHeld ?_
  rotate_left
  · (intro w hSw; (try dsimp only at hSw); go_simp; try with_reducible rfl)
  simp only [Act.put, List.setIfInBounds_toArray, List.set_cons_zero, List.set_cons_succ]
  refine wpAnyH_ready (rs := [5]) (by kernel_rfl) (by simp) (AllReadyH.cons rfl (fun K hK => ?_) AllReadyH.nil)
  go_simp
  (go_at_call 18; refine H1.out.mono ?_; rintro e w2 ⟨rfl, hp2, ht2⟩; have HP2 := Lib.hid hp2; have HT2 := Lib.hid ht2; clear hp2 ht2)
  (try go_wp2_with fail)
  refine hK.out _ _ (by first | with_reducible exact hHeld | with_reducible exact HS0.out | with_reducible exact HS2.out _ _ HT2.out HT3.out | with_reducible exact HS1.out _ HT2.out) (fun hHeldN => ?_)
  clear hHeld hK K
  have hHeld := hHeldN
  clear hHeldN
  refine wpAnyH_ready (rs := [11]) (by kernel_rfl) (by simp) (AllReadyH.cons rfl (fun K hK => ?_) AllReadyH.nil)
  go_simp
  (go_at_call 31; refine (H2.out _ HP2.out).mono ?_; rintro e w3 ⟨rfl, hp3, ht3⟩; have HP3 := Lib.hid hp3; have HT3 := Lib.hid ht3; clear hp3 ht3)
  (try go_wp2_with fail)
  refine hK.out _ _ (by first | with_reducible exact hHeld | with_reducible exact HS0.out | with_reducible exact HS2.out _ _ HT2.out HT3.out | with_reducible exact HS1.out _ HT2.out) (fun hHeldN => ?_)
  clear hHeld hK K
  have hHeld := hHeldN
  clear hHeldN
  refine take_yes 12 23 (v := ?_) rfl rfl (by kernel_rfl) (by kernel_rfl) (by kernel_rfl) (fun _ _ _ h => h) (by rfl) ?_ hHeld ?_
  rotate_left
  · (intro w hSw; (try dsimp only at hSw); go_simp; try with_reducible rfl)
  simp only [Act.put, List.setIfInBounds_toArray, List.set_cons_zero, List.set_cons_succ]
  refine take_yes 13 6 (v := ?_) rfl rfl (by kernel_rfl) (by kernel_rfl) (by kernel_rfl) (fun _ _ _ h => h) (by rfl) ?_ hHeld ?_
  rotate_left
  · (intro w hSw; (try dsimp only at hSw); go_simp; try with_reducible rfl)
  simp only [Act.put, List.setIfInBounds_toArray, List.set_cons_zero, List.set_cons_succ]
  refine wpAnyH_done (by kernel_rfl) ?_ _
  go_wp2
  go_ret
  exact ⟨rfl, HP3.out⟩
set_option maxHeartbeats 8000000 in
set_option maxRecDepth 100000 in
theorem does_1 (hp : Pq a w b m r s s) (x : Ac) (hab : Ab a x) (hk : x.k = 1) : Calls Try.prog 13 #[ptr b, ptr r, .agg #[.int .i64 x.k, .int .i64 x.n, .int .i64 x.z, .string x.d, .slice x.ka x.K.length x.kc]] w fun e w' => e = .returned (.bool true) ∧ Pq a w' b m r (plS s x) (plS s x) := by
  rw [pl1 hk]
  have hx := hab.in_
  have hd1 := hab.d1
  have hkb := hab.kb
  obtain ⟨A, hA0⟩ := hp.nw.at_
  have hbl := hA0.lt
  have hml := hA0.fl.lt
  have H1 : Hid (Calls Try.prog 19 #[ptr b, .int .i64 x.n] (w.alloc (acC x)).drew fun e w' => e = .returned (.int .i64 (Dk.stpE s 1 x.n 0)) ∧ Pq a w' b m r (Dk.stpS s 1 x.n 0) s ∧ Td (w.alloc (acC x)).drew w' b m) := by
    have hA := hA0.gr (Gr.refl w).alloc.drew (w' := (w.alloc (acC x)).drew)
    refine (sync_any hA hx.n0 hx.n1).mono ?_
    rintro e w2 ⟨rfl, q⟩
    exact ⟨rfl, (hp.up (Gr.refl w).alloc.drew).far q, q.2⟩
  have H2 : Hid (∀ w2, Pq a w2 b m r (Dk.stpS s 1 x.n 0) s → Calls Try.prog 32 #[ptr r, .int .i64 1, .int .i64 x.n, .int .i64 0] w2 fun e w' => e = .returned (.int .i64 (Dk.stpE s 1 x.n 0)) ∧ Pq a w' b m r (Dk.stpS s 1 x.n 0) (Dk.stpS s 1 x.n 0) ∧ Tr w2 w' r) := fun w2 h2 => pq_rst1 h2 x.n
  have HC0 := Lib.hid (ac_cells w x)
  have HNe : Hid (w.heap.size ≠ b ∧ w.heap.size ≠ m) := ⟨by omega, by omega⟩
  have HNr : Hid (w.heap.size ≠ r) := by obtain ⟨fa, fc, ka, kc, hr⟩ := hp.rf; have := hr.lt; show _ ≠ _; omega
  have HS0 : Hid ((w.alloc (acC x)).drew.cell? ⟨w.heap.size, 1, none⟩ = some (.int .i64 x.n) ∧ (w.alloc (acC x)).drew.cell? ⟨w.heap.size, 2, none⟩ = some (.int .i64 x.z) ∧ (w.alloc (acC x)).drew.cell? ⟨w.heap.size, 3, none⟩ = some (.string x.d) ∧ (w.alloc (acC x)).drew.cell? ⟨w.heap.size, 4, none⟩ = some (.slice x.ka x.K.length x.kc)) := HC0.out.2
  have HS1 : Hid (∀ w2, Td (w.alloc (acC x)).drew w2 b m → w2.cell? ⟨w.heap.size, 1, none⟩ = some (.int .i64 x.n) ∧ w2.cell? ⟨w.heap.size, 2, none⟩ = some (.int .i64 x.z) ∧ w2.cell? ⟨w.heap.size, 3, none⟩ = some (.string x.d) ∧ w2.cell? ⟨w.heap.size, 4, none⟩ = some (.slice x.ka x.K.length x.kc)) := fun w2 k => (cells_td (w := (w.alloc (acC x)).drew) HC0.out HNe.out.1 HNe.out.2 k).2
  have HS2 : Hid (∀ w2 w3, Td (w.alloc (acC x)).drew w2 b m → Tr w2 w3 r → w3.cell? ⟨w.heap.size, 1, none⟩ = some (.int .i64 x.n) ∧ w3.cell? ⟨w.heap.size, 2, none⟩ = some (.int .i64 x.z) ∧ w3.cell? ⟨w.heap.size, 3, none⟩ = some (.string x.d) ∧ w3.cell? ⟨w.heap.size, 4, none⟩ = some (.slice x.ka x.K.length x.kc)) := fun w2 w3 k k3 => by
    obtain ⟨q1, q2, q3, q4⟩ := HS1.out w2 k
    have ne : ∀ o, (some (⟨w.heap.size, o, none⟩ : Addr).block) ≠ some r := fun o e => HNr.out (by injection e)
    exact ⟨k3.cell q1 (ne 1), k3.cell q2 (ne 2), k3.cell q3 (ne 3), k3.cell q4 (ne 4)⟩
  clear hp hab hx hA0 hkb
  generalize Dk.stpE s 1 x.n 0 = eA at *
  generalize Dk.stpS s 1 x.n 0 = sA at *
  obtain ⟨xk, xn, xz, xd, xa, xc, xK⟩ := x
  simp only at *
  subst hk
  have hq : (eA == eA) = true := by simp
  go_enter Try.func13, Try.ntmps13
  go_upto_region 5 with fail
  refine wp_region_held_drew (S := (fun w' => w'.cell? ⟨w.heap.size, 1, none⟩ = some (.int .i64 xn) ∧ w'.cell? ⟨w.heap.size, 2, none⟩ = some (.int .i64 xz) ∧ w'.cell? ⟨w.heap.size, 3, none⟩ = some (.string xd) ∧ w'.cell? ⟨w.heap.size, 4, none⟩ = some (.slice xa xK.length xc))) (by kernel_rfl) (by first | with_reducible exact hHeld | with_reducible exact HS0.out | with_reducible exact HS2.out _ _ HT2.out HT3.out | with_reducible exact HS1.out _ HT2.out) (fun hHeld => ?_)
  refine take_yes 0 26 (v := ?_) rfl rfl (by kernel_rfl) (by kernel_rfl) (by kernel_rfl) (fun _ _ _ h => h) (by rfl) ?_ hHeld ?_
  rotate_left
  · (intro w hSw; (try dsimp only at hSw); go_simp; try with_reducible rfl)
  simp only [Act.put, List.setIfInBounds_toArray, List.set_cons_zero, List.set_cons_succ]
  refine take_yes 1 27 (v := ?_) rfl rfl (by kernel_rfl) (by kernel_rfl) (by kernel_rfl) (fun _ _ _ h => h) (by rfl) ?_ hHeld ?_
  rotate_left
  · (intro w hSw; (try dsimp only at hSw); go_simp; try with_reducible rfl)
  simp only [Act.put, List.setIfInBounds_toArray, List.set_cons_zero, List.set_cons_succ]
  refine take_yes 2 28 (v := ?_) rfl rfl (by kernel_rfl) (by kernel_rfl) (by kernel_rfl) (fun _ _ _ h => h) (by rfl) ?_ hHeld ?_
  rotate_left
  · (intro w hSw; (try dsimp only at hSw); go_simp; try with_reducible rfl)
  simp only [Act.put, List.setIfInBounds_toArray, List.set_cons_zero, List.set_cons_succ]
  refine take_yes 4 30 (v := ?_) rfl rfl (by kernel_rfl) (by kernel_rfl) (by kernel_rfl) (fun _ _ _ h => h) (by rfl) ?_ hHeld ?_
  rotate_left
  · (intro w hSw; (try dsimp only at hSw); go_simp; try with_reducible rfl)
  simp only [Act.put, List.setIfInBounds_toArray, List.set_cons_zero, List.set_cons_succ]
  refine take_yes 5 31 (v := ?_) rfl rfl (by kernel_rfl) (by kernel_rfl) (by kernel_rfl) (fun _ _ _ h => h) (by rfl) ?_ hHeld ?_
  rotate_left
  · (intro w hSw; (try dsimp only at hSw); go_simp; try with_reducible rfl)
  simp only [Act.put, List.setIfInBounds_toArray, List.set_cons_zero, List.set_cons_succ]
  refine take_yes 6 32 (v := ?_) rfl rfl (by kernel_rfl) (by kernel_rfl) (by kernel_rfl) (fun _ _ _ h => h) (by rfl) ?_ hHeld ?_
  rotate_left
  · (intro w hSw; (try dsimp only at hSw); go_simp; try with_reducible rfl)
  simp only [Act.put, List.setIfInBounds_toArray, List.set_cons_zero, List.set_cons_succ]
  refine wpAnyH_ready (rs := [3]) (by kernel_rfl) (by simp) (AllReadyH.cons rfl (fun K hK => ?_) AllReadyH.nil)
  go_simp
  (go_at_call 19; refine H1.out.mono ?_; rintro e w2 ⟨rfl, hp2, ht2⟩; have HP2 := Lib.hid hp2; have HT2 := Lib.hid ht2; clear hp2 ht2)
  (try go_wp2_with fail)
  refine hK.out _ _ (by first | with_reducible exact hHeld | with_reducible exact HS0.out | with_reducible exact HS2.out _ _ HT2.out HT3.out | with_reducible exact HS1.out _ HT2.out) (fun hHeldN => ?_)
  clear hHeld hK K
  have hHeld := hHeldN
  clear hHeldN
  refine wpAnyH_ready (rs := [7]) (by kernel_rfl) (by simp) (AllReadyH.cons rfl (fun K hK => ?_) AllReadyH.nil)
  go_simp
  (go_at_call 32; refine (H2.out _ HP2.out).mono ?_; rintro e w3 ⟨rfl, hp3, ht3⟩; have HP3 := Lib.hid hp3; have HT3 := Lib.hid ht3; clear hp3 ht3)
  (try go_wp2_with fail)
  refine hK.out _ _ (by first | with_reducible exact hHeld | with_reducible exact HS0.out | with_reducible exact HS2.out _ _ HT2.out HT3.out | with_reducible exact HS1.out _ HT2.out) (fun hHeldN => ?_)
  clear hHeld hK K
  have hHeld := hHeldN
  clear hHeldN
  refine take_yes 8 34 (v := ?_) rfl rfl (by kernel_rfl) (by kernel_rfl) (by kernel_rfl) (fun _ _ _ h => h) (by rfl) ?_ hHeld ?_
  rotate_left
  · (intro w hSw; (try dsimp only at hSw); go_simp; try with_reducible rfl)
  simp only [Act.put, List.setIfInBounds_toArray, List.set_cons_zero, List.set_cons_succ]
  refine take_yes 9 6 (v := ?_) rfl rfl (by kernel_rfl) (by kernel_rfl) (by kernel_rfl) (fun _ _ _ h => h) (by rfl) ?_ hHeld ?_
  rotate_left
  · (intro w hSw; (try dsimp only at hSw); go_simp; try with_reducible rfl)
  simp only [Act.put, List.setIfInBounds_toArray, List.set_cons_zero, List.set_cons_succ]
  refine wpAnyH_done (by kernel_rfl) ?_ _
  go_wp2
  go_ret
  exact ⟨rfl, HP3.out⟩
set_option maxHeartbeats 8000000 in
set_option maxRecDepth 100000 in
theorem does_2 (hp : Pq a w b m r s s) (x : Ac) (hab : Ab a x) (hk : x.k = 2) : Calls Try.prog 13 #[ptr b, ptr r, .agg #[.int .i64 x.k, .int .i64 x.n, .int .i64 x.z, .string x.d, .slice x.ka x.K.length x.kc]] w fun e w' => e = .returned (.bool true) ∧ Pq a w' b m r (plS s x) (plS s x) := by
  rw [pl2 hk]
  have hx := hab.in_
  have hd1 := hab.d1
  have hkb := hab.kb
  obtain ⟨A, hA0⟩ := hp.nw.at_
  have hbl := hA0.lt
  have hml := hA0.fl.lt
  have H1 : Hid (Calls Try.prog 20 #[ptr b, .int .i64 x.n, .int .i64 x.z] (w.alloc (acC x)).drew fun e w' => e = .returned (.int .i64 (Dk.stpE s 2 x.n x.z)) ∧ Pq a w' b m r (Dk.stpS s 2 x.n x.z) s ∧ Td (w.alloc (acC x)).drew w' b m) := by
    have hA := hA0.gr (Gr.refl w).alloc.drew (w' := (w.alloc (acC x)).drew)
    refine (cut_any hA hx.n0 hx.n1 x.z).mono ?_
    rintro e w2 ⟨rfl, q⟩
    exact ⟨rfl, (hp.up (Gr.refl w).alloc.drew).far q, q.2⟩
  have H2 : Hid (∀ w2, Pq a w2 b m r (Dk.stpS s 2 x.n x.z) s → Calls Try.prog 32 #[ptr r, .int .i64 2, .int .i64 x.n, .int .i64 x.z] w2 fun e w' => e = .returned (.int .i64 (Dk.stpE s 2 x.n x.z)) ∧ Pq a w' b m r (Dk.stpS s 2 x.n x.z) (Dk.stpS s 2 x.n x.z) ∧ Tr w2 w' r) := fun w2 h2 => pq_rst2 h2 x.n x.z
  have HC0 := Lib.hid (ac_cells w x)
  have HNe : Hid (w.heap.size ≠ b ∧ w.heap.size ≠ m) := ⟨by omega, by omega⟩
  have HNr : Hid (w.heap.size ≠ r) := by obtain ⟨fa, fc, ka, kc, hr⟩ := hp.rf; have := hr.lt; show _ ≠ _; omega
  have HS0 : Hid ((w.alloc (acC x)).drew.cell? ⟨w.heap.size, 1, none⟩ = some (.int .i64 x.n) ∧ (w.alloc (acC x)).drew.cell? ⟨w.heap.size, 2, none⟩ = some (.int .i64 x.z) ∧ (w.alloc (acC x)).drew.cell? ⟨w.heap.size, 3, none⟩ = some (.string x.d) ∧ (w.alloc (acC x)).drew.cell? ⟨w.heap.size, 4, none⟩ = some (.slice x.ka x.K.length x.kc)) := HC0.out.2
  have HS1 : Hid (∀ w2, Td (w.alloc (acC x)).drew w2 b m → w2.cell? ⟨w.heap.size, 1, none⟩ = some (.int .i64 x.n) ∧ w2.cell? ⟨w.heap.size, 2, none⟩ = some (.int .i64 x.z) ∧ w2.cell? ⟨w.heap.size, 3, none⟩ = some (.string x.d) ∧ w2.cell? ⟨w.heap.size, 4, none⟩ = some (.slice x.ka x.K.length x.kc)) := fun w2 k => (cells_td (w := (w.alloc (acC x)).drew) HC0.out HNe.out.1 HNe.out.2 k).2
  have HS2 : Hid (∀ w2 w3, Td (w.alloc (acC x)).drew w2 b m → Tr w2 w3 r → w3.cell? ⟨w.heap.size, 1, none⟩ = some (.int .i64 x.n) ∧ w3.cell? ⟨w.heap.size, 2, none⟩ = some (.int .i64 x.z) ∧ w3.cell? ⟨w.heap.size, 3, none⟩ = some (.string x.d) ∧ w3.cell? ⟨w.heap.size, 4, none⟩ = some (.slice x.ka x.K.length x.kc)) := fun w2 w3 k k3 => by
    obtain ⟨q1, q2, q3, q4⟩ := HS1.out w2 k
    have ne : ∀ o, (some (⟨w.heap.size, o, none⟩ : Addr).block) ≠ some r := fun o e => HNr.out (by injection e)
    exact ⟨k3.cell q1 (ne 1), k3.cell q2 (ne 2), k3.cell q3 (ne 3), k3.cell q4 (ne 4)⟩
  clear hp hab hx hA0 hkb
  generalize Dk.stpE s 2 x.n x.z = eA at *
  generalize Dk.stpS s 2 x.n x.z = sA at *
  obtain ⟨xk, xn, xz, xd, xa, xc, xK⟩ := x
  simp only at *
  subst hk
  have hq : (eA == eA) = true := by simp
  go_enter Try.func13, Try.ntmps13
  go_upto_region 7 with fail
  refine wp_region_held_drew (S := (fun w' => w'.cell? ⟨w.heap.size, 1, none⟩ = some (.int .i64 xn) ∧ w'.cell? ⟨w.heap.size, 2, none⟩ = some (.int .i64 xz) ∧ w'.cell? ⟨w.heap.size, 3, none⟩ = some (.string xd) ∧ w'.cell? ⟨w.heap.size, 4, none⟩ = some (.slice xa xK.length xc))) (by kernel_rfl) (by first | with_reducible exact hHeld | with_reducible exact HS0.out | with_reducible exact HS2.out _ _ HT2.out HT3.out | with_reducible exact HS1.out _ HT2.out) (fun hHeld => ?_)
  refine take_yes 0 37 (v := ?_) rfl rfl (by kernel_rfl) (by kernel_rfl) (by kernel_rfl) (fun _ _ _ h => h) (by rfl) ?_ hHeld ?_
  rotate_left
  · (intro w hSw; (try dsimp only at hSw); go_simp; try with_reducible rfl)
  simp only [Act.put, List.setIfInBounds_toArray, List.set_cons_zero, List.set_cons_succ]
  refine take_yes 1 38 (v := ?_) rfl rfl (by kernel_rfl) (by kernel_rfl) (by kernel_rfl) (fun _ _ _ h => h) (by rfl) ?_ hHeld ?_
  rotate_left
  · (intro w hSw; (try dsimp only at hSw); go_simp; try with_reducible rfl)
  simp only [Act.put, List.setIfInBounds_toArray, List.set_cons_zero, List.set_cons_succ]
  refine take_yes 2 39 (v := ?_) rfl rfl (by kernel_rfl) (by kernel_rfl) (by kernel_rfl) (fun _ _ _ h => h) (by rfl) ?_ hHeld ?_
  rotate_left
  · (intro w hSw; (try dsimp only at hSw); go_simp; try with_reducible rfl)
  simp only [Act.put, List.setIfInBounds_toArray, List.set_cons_zero, List.set_cons_succ]
  refine take_yes 3 40 (v := ?_) rfl rfl (by kernel_rfl) (by kernel_rfl) (by kernel_rfl) (fun _ _ _ h => h) (by rfl) ?_ hHeld ?_
  rotate_left
  · (intro w hSw; (try dsimp only at hSw); go_simp; try with_reducible rfl)
  simp only [Act.put, List.setIfInBounds_toArray, List.set_cons_zero, List.set_cons_succ]
  refine take_yes 4 41 (v := ?_) rfl rfl (by kernel_rfl) (by kernel_rfl) (by kernel_rfl) (fun _ _ _ h => h) (by rfl) ?_ hHeld ?_
  rotate_left
  · (intro w hSw; (try dsimp only at hSw); go_simp; try with_reducible rfl)
  simp only [Act.put, List.setIfInBounds_toArray, List.set_cons_zero, List.set_cons_succ]
  refine take_yes 6 43 (v := ?_) rfl rfl (by kernel_rfl) (by kernel_rfl) (by kernel_rfl) (fun _ _ _ h => h) (by rfl) ?_ hHeld ?_
  rotate_left
  · (intro w hSw; (try dsimp only at hSw); go_simp; try with_reducible rfl)
  simp only [Act.put, List.setIfInBounds_toArray, List.set_cons_zero, List.set_cons_succ]
  refine take_yes 7 44 (v := ?_) rfl rfl (by kernel_rfl) (by kernel_rfl) (by kernel_rfl) (fun _ _ _ h => h) (by rfl) ?_ hHeld ?_
  rotate_left
  · (intro w hSw; (try dsimp only at hSw); go_simp; try with_reducible rfl)
  simp only [Act.put, List.setIfInBounds_toArray, List.set_cons_zero, List.set_cons_succ]
  refine take_yes 8 45 (v := ?_) rfl rfl (by kernel_rfl) (by kernel_rfl) (by kernel_rfl) (fun _ _ _ h => h) (by rfl) ?_ hHeld ?_
  rotate_left
  · (intro w hSw; (try dsimp only at hSw); go_simp; try with_reducible rfl)
  simp only [Act.put, List.setIfInBounds_toArray, List.set_cons_zero, List.set_cons_succ]
  refine take_yes 9 46 (v := ?_) rfl rfl (by kernel_rfl) (by kernel_rfl) (by kernel_rfl) (fun _ _ _ h => h) (by rfl) ?_ hHeld ?_
  rotate_left
  · (intro w hSw; (try dsimp only at hSw); go_simp; try with_reducible rfl)
  simp only [Act.put, List.setIfInBounds_toArray, List.set_cons_zero, List.set_cons_succ]
  refine take_yes 10 47 (v := ?_) rfl rfl (by kernel_rfl) (by kernel_rfl) (by kernel_rfl) (fun _ _ _ h => h) (by rfl) ?_ hHeld ?_
  rotate_left
  · (intro w hSw; (try dsimp only at hSw); go_simp; try with_reducible rfl)
  simp only [Act.put, List.setIfInBounds_toArray, List.set_cons_zero, List.set_cons_succ]
  refine wpAnyH_ready (rs := [5]) (by kernel_rfl) (by simp) (AllReadyH.cons rfl (fun K hK => ?_) AllReadyH.nil)
  go_simp
  (go_at_call 20; refine H1.out.mono ?_; rintro e w2 ⟨rfl, hp2, ht2⟩; have HP2 := Lib.hid hp2; have HT2 := Lib.hid ht2; clear hp2 ht2)
  (try go_wp2_with fail)
  refine hK.out _ _ (by first | with_reducible exact hHeld | with_reducible exact HS0.out | with_reducible exact HS2.out _ _ HT2.out HT3.out | with_reducible exact HS1.out _ HT2.out) (fun hHeldN => ?_)
  clear hHeld hK K
  have hHeld := hHeldN
  clear hHeldN
  refine wpAnyH_ready (rs := [11]) (by kernel_rfl) (by simp) (AllReadyH.cons rfl (fun K hK => ?_) AllReadyH.nil)
  go_simp
  (go_at_call 32; refine (H2.out _ HP2.out).mono ?_; rintro e w3 ⟨rfl, hp3, ht3⟩; have HP3 := Lib.hid hp3; have HT3 := Lib.hid ht3; clear hp3 ht3)
  (try go_wp2_with fail)
  refine hK.out _ _ (by first | with_reducible exact hHeld | with_reducible exact HS0.out | with_reducible exact HS2.out _ _ HT2.out HT3.out | with_reducible exact HS1.out _ HT2.out) (fun hHeldN => ?_)
  clear hHeld hK K
  have hHeld := hHeldN
  clear hHeldN
  refine take_yes 12 49 (v := ?_) rfl rfl (by kernel_rfl) (by kernel_rfl) (by kernel_rfl) (fun _ _ _ h => h) (by rfl) ?_ hHeld ?_
  rotate_left
  · (intro w hSw; (try dsimp only at hSw); go_simp; try with_reducible rfl)
  simp only [Act.put, List.setIfInBounds_toArray, List.set_cons_zero, List.set_cons_succ]
  refine take_yes 13 6 (v := ?_) rfl rfl (by kernel_rfl) (by kernel_rfl) (by kernel_rfl) (fun _ _ _ h => h) (by rfl) ?_ hHeld ?_
  rotate_left
  · (intro w hSw; (try dsimp only at hSw); go_simp; try with_reducible rfl)
  simp only [Act.put, List.setIfInBounds_toArray, List.set_cons_zero, List.set_cons_succ]
  refine wpAnyH_done (by kernel_rfl) ?_ _
  go_wp2
  go_ret
  exact ⟨rfl, HP3.out⟩
set_option maxHeartbeats 8000000 in
set_option maxRecDepth 100000 in
theorem does_3 (hp : Pq a w b m r s s) (x : Ac) (hab : Ab a x) (hk : x.k = 3) : Calls Try.prog 13 #[ptr b, ptr r, .agg #[.int .i64 x.k, .int .i64 x.n, .int .i64 x.z, .string x.d, .slice x.ka x.K.length x.kc]] w fun e w' => e = .returned (.bool true) ∧ Pq a w' b m r (plS s x) (plS s x) := by
  rw [pl3 hk]
  have hx := hab.in_
  have hd1 := hab.d1
  have hkb := hab.kb
  obtain ⟨A, hA0⟩ := hp.nw.at_
  have hbl := hA0.lt
  have hml := hA0.fl.lt
  have H1 : Hid (Calls Try.prog 21 #[ptr b, .int .i64 x.n] (w.alloc (acC x)).drew fun e w' => e = .returned (.int .i64 (Dk.stpE s 3 x.n 0)) ∧ Pq a w' b m r (Dk.stpS s 3 x.n 0) s ∧ Td (w.alloc (acC x)).drew w' b m) := by
    have hA := hA0.gr (Gr.refl w).alloc.drew (w' := (w.alloc (acC x)).drew)
    refine (remove_any hA hx.n0 hx.n1).mono ?_
    rintro e w2 ⟨rfl, q⟩
    exact ⟨rfl, (hp.up (Gr.refl w).alloc.drew).far q, q.2⟩
  have H2 : Hid (∀ w2, Pq a w2 b m r (Dk.stpS s 3 x.n 0) s → Calls Try.prog 32 #[ptr r, .int .i64 3, .int .i64 x.n, .int .i64 0] w2 fun e w' => e = .returned (.int .i64 (Dk.stpE s 3 x.n 0)) ∧ Pq a w' b m r (Dk.stpS s 3 x.n 0) (Dk.stpS s 3 x.n 0) ∧ Tr w2 w' r) := fun w2 h2 => pq_rst3 h2 x.n
  have HC0 := Lib.hid (ac_cells w x)
  have HNe : Hid (w.heap.size ≠ b ∧ w.heap.size ≠ m) := ⟨by omega, by omega⟩
  have HNr : Hid (w.heap.size ≠ r) := by obtain ⟨fa, fc, ka, kc, hr⟩ := hp.rf; have := hr.lt; show _ ≠ _; omega
  have HS0 : Hid ((w.alloc (acC x)).drew.cell? ⟨w.heap.size, 1, none⟩ = some (.int .i64 x.n) ∧ (w.alloc (acC x)).drew.cell? ⟨w.heap.size, 2, none⟩ = some (.int .i64 x.z) ∧ (w.alloc (acC x)).drew.cell? ⟨w.heap.size, 3, none⟩ = some (.string x.d) ∧ (w.alloc (acC x)).drew.cell? ⟨w.heap.size, 4, none⟩ = some (.slice x.ka x.K.length x.kc)) := HC0.out.2
  have HS1 : Hid (∀ w2, Td (w.alloc (acC x)).drew w2 b m → w2.cell? ⟨w.heap.size, 1, none⟩ = some (.int .i64 x.n) ∧ w2.cell? ⟨w.heap.size, 2, none⟩ = some (.int .i64 x.z) ∧ w2.cell? ⟨w.heap.size, 3, none⟩ = some (.string x.d) ∧ w2.cell? ⟨w.heap.size, 4, none⟩ = some (.slice x.ka x.K.length x.kc)) := fun w2 k => (cells_td (w := (w.alloc (acC x)).drew) HC0.out HNe.out.1 HNe.out.2 k).2
  have HS2 : Hid (∀ w2 w3, Td (w.alloc (acC x)).drew w2 b m → Tr w2 w3 r → w3.cell? ⟨w.heap.size, 1, none⟩ = some (.int .i64 x.n) ∧ w3.cell? ⟨w.heap.size, 2, none⟩ = some (.int .i64 x.z) ∧ w3.cell? ⟨w.heap.size, 3, none⟩ = some (.string x.d) ∧ w3.cell? ⟨w.heap.size, 4, none⟩ = some (.slice x.ka x.K.length x.kc)) := fun w2 w3 k k3 => by
    obtain ⟨q1, q2, q3, q4⟩ := HS1.out w2 k
    have ne : ∀ o, (some (⟨w.heap.size, o, none⟩ : Addr).block) ≠ some r := fun o e => HNr.out (by injection e)
    exact ⟨k3.cell q1 (ne 1), k3.cell q2 (ne 2), k3.cell q3 (ne 3), k3.cell q4 (ne 4)⟩
  clear hp hab hx hA0 hkb
  generalize Dk.stpE s 3 x.n 0 = eA at *
  generalize Dk.stpS s 3 x.n 0 = sA at *
  obtain ⟨xk, xn, xz, xd, xa, xc, xK⟩ := x
  simp only at *
  subst hk
  have hq : (eA == eA) = true := by simp
  go_enter Try.func13, Try.ntmps13
  go_upto_region 9 with fail
  refine wp_region_held_drew (S := (fun w' => w'.cell? ⟨w.heap.size, 1, none⟩ = some (.int .i64 xn) ∧ w'.cell? ⟨w.heap.size, 2, none⟩ = some (.int .i64 xz) ∧ w'.cell? ⟨w.heap.size, 3, none⟩ = some (.string xd) ∧ w'.cell? ⟨w.heap.size, 4, none⟩ = some (.slice xa xK.length xc))) (by kernel_rfl) (by first | with_reducible exact hHeld | with_reducible exact HS0.out | with_reducible exact HS2.out _ _ HT2.out HT3.out | with_reducible exact HS1.out _ HT2.out) (fun hHeld => ?_)
  refine take_yes 0 52 (v := ?_) rfl rfl (by kernel_rfl) (by kernel_rfl) (by kernel_rfl) (fun _ _ _ h => h) (by rfl) ?_ hHeld ?_
  rotate_left
  · (intro w hSw; (try dsimp only at hSw); go_simp; try with_reducible rfl)
  simp only [Act.put, List.setIfInBounds_toArray, List.set_cons_zero, List.set_cons_succ]
  refine take_yes 1 53 (v := ?_) rfl rfl (by kernel_rfl) (by kernel_rfl) (by kernel_rfl) (fun _ _ _ h => h) (by rfl) ?_ hHeld ?_
  rotate_left
  · (intro w hSw; (try dsimp only at hSw); go_simp; try with_reducible rfl)
  simp only [Act.put, List.setIfInBounds_toArray, List.set_cons_zero, List.set_cons_succ]
  refine take_yes 2 54 (v := ?_) rfl rfl (by kernel_rfl) (by kernel_rfl) (by kernel_rfl) (fun _ _ _ h => h) (by rfl) ?_ hHeld ?_
  rotate_left
  · (intro w hSw; (try dsimp only at hSw); go_simp; try with_reducible rfl)
  simp only [Act.put, List.setIfInBounds_toArray, List.set_cons_zero, List.set_cons_succ]
  refine take_yes 4 56 (v := ?_) rfl rfl (by kernel_rfl) (by kernel_rfl) (by kernel_rfl) (fun _ _ _ h => h) (by rfl) ?_ hHeld ?_
  rotate_left
  · (intro w hSw; (try dsimp only at hSw); go_simp; try with_reducible rfl)
  simp only [Act.put, List.setIfInBounds_toArray, List.set_cons_zero, List.set_cons_succ]
  refine take_yes 5 57 (v := ?_) rfl rfl (by kernel_rfl) (by kernel_rfl) (by kernel_rfl) (fun _ _ _ h => h) (by rfl) ?_ hHeld ?_
  rotate_left
  · (intro w hSw; (try dsimp only at hSw); go_simp; try with_reducible rfl)
  simp only [Act.put, List.setIfInBounds_toArray, List.set_cons_zero, List.set_cons_succ]
  refine take_yes 6 58 (v := ?_) rfl rfl (by kernel_rfl) (by kernel_rfl) (by kernel_rfl) (fun _ _ _ h => h) (by rfl) ?_ hHeld ?_
  rotate_left
  · (intro w hSw; (try dsimp only at hSw); go_simp; try with_reducible rfl)
  simp only [Act.put, List.setIfInBounds_toArray, List.set_cons_zero, List.set_cons_succ]
  refine wpAnyH_ready (rs := [3]) (by kernel_rfl) (by simp) (AllReadyH.cons rfl (fun K hK => ?_) AllReadyH.nil)
  go_simp
  (go_at_call 21; refine H1.out.mono ?_; rintro e w2 ⟨rfl, hp2, ht2⟩; have HP2 := Lib.hid hp2; have HT2 := Lib.hid ht2; clear hp2 ht2)
  (try go_wp2_with fail)
  refine hK.out _ _ (by first | with_reducible exact hHeld | with_reducible exact HS0.out | with_reducible exact HS2.out _ _ HT2.out HT3.out | with_reducible exact HS1.out _ HT2.out) (fun hHeldN => ?_)
  clear hHeld hK K
  have hHeld := hHeldN
  clear hHeldN
  refine wpAnyH_ready (rs := [7]) (by kernel_rfl) (by simp) (AllReadyH.cons rfl (fun K hK => ?_) AllReadyH.nil)
  go_simp
  (go_at_call 32; refine (H2.out _ HP2.out).mono ?_; rintro e w3 ⟨rfl, hp3, ht3⟩; have HP3 := Lib.hid hp3; have HT3 := Lib.hid ht3; clear hp3 ht3)
  (try go_wp2_with fail)
  refine hK.out _ _ (by first | with_reducible exact hHeld | with_reducible exact HS0.out | with_reducible exact HS2.out _ _ HT2.out HT3.out | with_reducible exact HS1.out _ HT2.out) (fun hHeldN => ?_)
  clear hHeld hK K
  have hHeld := hHeldN
  clear hHeldN
  refine take_yes 8 60 (v := ?_) rfl rfl (by kernel_rfl) (by kernel_rfl) (by kernel_rfl) (fun _ _ _ h => h) (by rfl) ?_ hHeld ?_
  rotate_left
  · (intro w hSw; (try dsimp only at hSw); go_simp; try with_reducible rfl)
  simp only [Act.put, List.setIfInBounds_toArray, List.set_cons_zero, List.set_cons_succ]
  refine take_yes 9 6 (v := ?_) rfl rfl (by kernel_rfl) (by kernel_rfl) (by kernel_rfl) (fun _ _ _ h => h) (by rfl) ?_ hHeld ?_
  rotate_left
  · (intro w hSw; (try dsimp only at hSw); go_simp; try with_reducible rfl)
  simp only [Act.put, List.setIfInBounds_toArray, List.set_cons_zero, List.set_cons_succ]
  refine wpAnyH_done (by kernel_rfl) ?_ _
  go_wp2
  go_ret
  exact ⟨rfl, HP3.out⟩
set_option maxHeartbeats 8000000 in
set_option maxRecDepth 100000 in
theorem does_4 (hp : Pq a w b m r s s) (x : Ac) (hab : Ab a x) (hk : x.k = 4) : Calls Try.prog 13 #[ptr b, ptr r, .agg #[.int .i64 x.k, .int .i64 x.n, .int .i64 x.z, .string x.d, .slice x.ka x.K.length x.kc]] w fun e w' => e = .returned (.bool true) ∧ Pq a w' b m r (plS s x) (plS s x) := by
  rw [pl4 hk]
  have hx := hab.in_
  have hd1 := hab.d1
  have hkb := hab.kb
  obtain ⟨A, hA0⟩ := hp.nw.at_
  have hbl := hA0.lt
  have hml := hA0.fl.lt
  have H1 : Hid (Calls Try.prog 22 #[ptr b, .int .i64 x.z, .slice x.ka x.K.length x.kc] (w.alloc (acC x)).drew fun e w' => e = .returned (.int .i64 (Dk.armE s x.z)) ∧ Pq a w' b m r (Dk.armS s x.z x.K) s ∧ Td (w.alloc (acC x)).drew w' b m) := by
    have hA := hA0.gr (Gr.refl w).alloc.drew (w' := (w.alloc (acC x)).drew)
    refine (arm_any hA hx.z1 (hx.row.gr (hp.nw.gr.trans (Gr.refl w).alloc.drew))).mono ?_
    rintro e w2 ⟨rfl, q⟩
    exact ⟨rfl, (hp.up (Gr.refl w).alloc.drew).far q, q.2⟩
  have H2 : Hid (∀ w2, Pq a w2 b m r (Dk.armS s x.z x.K) s → Calls Try.prog 33 #[ptr r, .int .i64 x.z, .slice x.ka x.K.length x.kc] w2 fun e w' => e = .returned (.int .i64 (Dk.armE s x.z)) ∧ Pq a w' b m r (Dk.armS s x.z x.K) (Dk.armS s x.z x.K) ∧ Tr w2 w' r) := fun w2 h2 => pq_rar h2 hx.z1 hkb
  have HC0 := Lib.hid (ac_cells w x)
  have HNe : Hid (w.heap.size ≠ b ∧ w.heap.size ≠ m) := ⟨by omega, by omega⟩
  have HNr : Hid (w.heap.size ≠ r) := by obtain ⟨fa, fc, ka, kc, hr⟩ := hp.rf; have := hr.lt; show _ ≠ _; omega
  have HS0 : Hid ((w.alloc (acC x)).drew.cell? ⟨w.heap.size, 1, none⟩ = some (.int .i64 x.n) ∧ (w.alloc (acC x)).drew.cell? ⟨w.heap.size, 2, none⟩ = some (.int .i64 x.z) ∧ (w.alloc (acC x)).drew.cell? ⟨w.heap.size, 3, none⟩ = some (.string x.d) ∧ (w.alloc (acC x)).drew.cell? ⟨w.heap.size, 4, none⟩ = some (.slice x.ka x.K.length x.kc)) := HC0.out.2
  have HS1 : Hid (∀ w2, Td (w.alloc (acC x)).drew w2 b m → w2.cell? ⟨w.heap.size, 1, none⟩ = some (.int .i64 x.n) ∧ w2.cell? ⟨w.heap.size, 2, none⟩ = some (.int .i64 x.z) ∧ w2.cell? ⟨w.heap.size, 3, none⟩ = some (.string x.d) ∧ w2.cell? ⟨w.heap.size, 4, none⟩ = some (.slice x.ka x.K.length x.kc)) := fun w2 k => (cells_td (w := (w.alloc (acC x)).drew) HC0.out HNe.out.1 HNe.out.2 k).2
  have HS2 : Hid (∀ w2 w3, Td (w.alloc (acC x)).drew w2 b m → Tr w2 w3 r → w3.cell? ⟨w.heap.size, 1, none⟩ = some (.int .i64 x.n) ∧ w3.cell? ⟨w.heap.size, 2, none⟩ = some (.int .i64 x.z) ∧ w3.cell? ⟨w.heap.size, 3, none⟩ = some (.string x.d) ∧ w3.cell? ⟨w.heap.size, 4, none⟩ = some (.slice x.ka x.K.length x.kc)) := fun w2 w3 k k3 => by
    obtain ⟨q1, q2, q3, q4⟩ := HS1.out w2 k
    have ne : ∀ o, (some (⟨w.heap.size, o, none⟩ : Addr).block) ≠ some r := fun o e => HNr.out (by injection e)
    exact ⟨k3.cell q1 (ne 1), k3.cell q2 (ne 2), k3.cell q3 (ne 3), k3.cell q4 (ne 4)⟩
  clear hp hab hx hA0 hkb
  generalize Dk.armE s x.z = eA at *
  generalize Dk.armS s x.z x.K = sA at *
  obtain ⟨xk, xn, xz, xd, xa, xc, xK⟩ := x
  simp only at *
  subst hk
  have hq : (eA == eA) = true := by simp
  go_enter Try.func13, Try.ntmps13
  go_upto_region 11 with fail
  refine wp_region_held_drew (S := (fun w' => w'.cell? ⟨w.heap.size, 1, none⟩ = some (.int .i64 xn) ∧ w'.cell? ⟨w.heap.size, 2, none⟩ = some (.int .i64 xz) ∧ w'.cell? ⟨w.heap.size, 3, none⟩ = some (.string xd) ∧ w'.cell? ⟨w.heap.size, 4, none⟩ = some (.slice xa xK.length xc))) (by kernel_rfl) (by first | with_reducible exact hHeld | with_reducible exact HS0.out | with_reducible exact HS2.out _ _ HT2.out HT3.out | with_reducible exact HS1.out _ HT2.out) (fun hHeld => ?_)
  refine take_yes 0 63 (v := ?_) rfl rfl (by kernel_rfl) (by kernel_rfl) (by kernel_rfl) (fun _ _ _ h => h) (by rfl) ?_ hHeld ?_
  rotate_left
  · (intro w hSw; (try dsimp only at hSw); go_simp; try with_reducible rfl)
  simp only [Act.put, List.setIfInBounds_toArray, List.set_cons_zero, List.set_cons_succ]
  refine take_yes 1 64 (v := ?_) rfl rfl (by kernel_rfl) (by kernel_rfl) (by kernel_rfl) (fun _ _ _ h => h) (by rfl) ?_ hHeld ?_
  rotate_left
  · (intro w hSw; (try dsimp only at hSw); go_simp; try with_reducible rfl)
  simp only [Act.put, List.setIfInBounds_toArray, List.set_cons_zero, List.set_cons_succ]
  refine take_yes 2 65 (v := ?_) rfl rfl (by kernel_rfl) (by kernel_rfl) (by kernel_rfl) (fun _ _ _ h => h) (by rfl) ?_ hHeld ?_
  rotate_left
  · (intro w hSw; (try dsimp only at hSw); go_simp; try with_reducible rfl)
  simp only [Act.put, List.setIfInBounds_toArray, List.set_cons_zero, List.set_cons_succ]
  refine take_yes 3 66 (v := ?_) rfl rfl (by kernel_rfl) (by kernel_rfl) (by kernel_rfl) (fun _ _ _ h => h) (by rfl) ?_ hHeld ?_
  rotate_left
  · (intro w hSw; (try dsimp only at hSw); go_simp; try with_reducible rfl)
  simp only [Act.put, List.setIfInBounds_toArray, List.set_cons_zero, List.set_cons_succ]
  refine take_yes 4 67 (v := ?_) rfl rfl (by kernel_rfl) (by kernel_rfl) (by kernel_rfl) (fun _ _ _ h => h) (by rfl) ?_ hHeld ?_
  rotate_left
  · (intro w hSw; (try dsimp only at hSw); go_simp; try with_reducible rfl)
  simp only [Act.put, List.setIfInBounds_toArray, List.set_cons_zero, List.set_cons_succ]
  refine take_yes 6 69 (v := ?_) rfl rfl (by kernel_rfl) (by kernel_rfl) (by kernel_rfl) (fun _ _ _ h => h) (by rfl) ?_ hHeld ?_
  rotate_left
  · (intro w hSw; (try dsimp only at hSw); go_simp; try with_reducible rfl)
  simp only [Act.put, List.setIfInBounds_toArray, List.set_cons_zero, List.set_cons_succ]
  refine take_yes 7 70 (v := ?_) rfl rfl (by kernel_rfl) (by kernel_rfl) (by kernel_rfl) (fun _ _ _ h => h) (by rfl) ?_ hHeld ?_
  rotate_left
  · (intro w hSw; (try dsimp only at hSw); go_simp; try with_reducible rfl)
  simp only [Act.put, List.setIfInBounds_toArray, List.set_cons_zero, List.set_cons_succ]
  refine take_yes 8 71 (v := ?_) rfl rfl (by kernel_rfl) (by kernel_rfl) (by kernel_rfl) (fun _ _ _ h => h) (by rfl) ?_ hHeld ?_
  rotate_left
  · (intro w hSw; (try dsimp only at hSw); go_simp; try with_reducible rfl)
  simp only [Act.put, List.setIfInBounds_toArray, List.set_cons_zero, List.set_cons_succ]
  refine take_yes 9 72 (v := ?_) rfl rfl (by kernel_rfl) (by kernel_rfl) (by kernel_rfl) (fun _ _ _ h => h) (by rfl) ?_ hHeld ?_
  rotate_left
  · (intro w hSw; (try dsimp only at hSw); go_simp; try with_reducible rfl)
  simp only [Act.put, List.setIfInBounds_toArray, List.set_cons_zero, List.set_cons_succ]
  refine take_yes 10 73 (v := ?_) rfl rfl (by kernel_rfl) (by kernel_rfl) (by kernel_rfl) (fun _ _ _ h => h) (by rfl) ?_ hHeld ?_
  rotate_left
  · (intro w hSw; (try dsimp only at hSw); go_simp; try with_reducible rfl)
  simp only [Act.put, List.setIfInBounds_toArray, List.set_cons_zero, List.set_cons_succ]
  refine wpAnyH_ready (rs := [5]) (by kernel_rfl) (by simp) (AllReadyH.cons rfl (fun K hK => ?_) AllReadyH.nil)
  go_simp
  (go_at_call 22; refine H1.out.mono ?_; rintro e w2 ⟨rfl, hp2, ht2⟩; have HP2 := Lib.hid hp2; have HT2 := Lib.hid ht2; clear hp2 ht2)
  (try go_wp2_with fail)
  refine hK.out _ _ (by first | with_reducible exact hHeld | with_reducible exact HS0.out | with_reducible exact HS2.out _ _ HT2.out HT3.out | with_reducible exact HS1.out _ HT2.out) (fun hHeldN => ?_)
  clear hHeld hK K
  have hHeld := hHeldN
  clear hHeldN
  refine wpAnyH_ready (rs := [11]) (by kernel_rfl) (by simp) (AllReadyH.cons rfl (fun K hK => ?_) AllReadyH.nil)
  go_simp
  (go_at_call 33; refine (H2.out _ HP2.out).mono ?_; rintro e w3 ⟨rfl, hp3, ht3⟩; have HP3 := Lib.hid hp3; have HT3 := Lib.hid ht3; clear hp3 ht3)
  (try go_wp2_with fail)
  refine hK.out _ _ (by first | with_reducible exact hHeld | with_reducible exact HS0.out | with_reducible exact HS2.out _ _ HT2.out HT3.out | with_reducible exact HS1.out _ HT2.out) (fun hHeldN => ?_)
  clear hHeld hK K
  have hHeld := hHeldN
  clear hHeldN
  refine take_yes 12 75 (v := ?_) rfl rfl (by kernel_rfl) (by kernel_rfl) (by kernel_rfl) (fun _ _ _ h => h) (by rfl) ?_ hHeld ?_
  rotate_left
  · (intro w hSw; (try dsimp only at hSw); go_simp; try with_reducible rfl)
  simp only [Act.put, List.setIfInBounds_toArray, List.set_cons_zero, List.set_cons_succ]
  refine take_yes 13 6 (v := ?_) rfl rfl (by kernel_rfl) (by kernel_rfl) (by kernel_rfl) (fun _ _ _ h => h) (by rfl) ?_ hHeld ?_
  rotate_left
  · (intro w hSw; (try dsimp only at hSw); go_simp; try with_reducible rfl)
  simp only [Act.put, List.setIfInBounds_toArray, List.set_cons_zero, List.set_cons_succ]
  refine wpAnyH_done (by kernel_rfl) ?_ _
  go_wp2
  go_ret
  exact ⟨rfl, HP3.out⟩
set_option maxHeartbeats 8000000 in
set_option maxRecDepth 100000 in
theorem does_5 (hp : Pq a w b m r s s) (x : Ac) (hab : Ab a x) (hk : x.k = 5) : Calls Try.prog 13 #[ptr b, ptr r, .agg #[.int .i64 x.k, .int .i64 x.n, .int .i64 x.z, .string x.d, .slice x.ka x.K.length x.kc]] w fun e w' => e = .returned (.bool true) ∧ Pq a w' b m r (plS s x) (plS s x) := by
  rw [pl5 hk]
  have hx := hab.in_
  have hd1 := hab.d1
  have hkb := hab.kb
  obtain ⟨A, hA0⟩ := hp.nw.at_
  have hbl := hA0.lt
  have hml := hA0.fl.lt
  have H1 : Hid (Calls Try.prog 23 #[ptr b, .slice x.ka x.K.length x.kc] (w.alloc (acC x)).drew fun e w' => e = .returned (.int .i64 (Dk.craE s)) ∧ Pq a w' b m r (Dk.craS s x.K) s ∧ Td (w.alloc (acC x)).drew w' b m) := by
    have hA := hA0.gr (Gr.refl w).alloc.drew (w' := (w.alloc (acC x)).drew)
    refine (crash_any hA (hx.row.gr (hp.nw.gr.trans (Gr.refl w).alloc.drew))).mono ?_
    rintro e w2 ⟨rfl, q⟩
    exact ⟨rfl, (hp.up (Gr.refl w).alloc.drew).far q, q.2⟩
  have H2 : Hid (∀ w2, Pq a w2 b m r (Dk.craS s x.K) s → Calls Try.prog 34 #[ptr r, .slice x.ka x.K.length x.kc] w2 fun e w' => e = .returned (.int .i64 (Dk.craE s)) ∧ Pq a w' b m r (Dk.craS s x.K) (Dk.craS s x.K) ∧ Tr w2 w' r) := fun w2 h2 => pq_rcr h2 (hx.row.gr h2.nw.gr)
  have HC0 := Lib.hid (ac_cells w x)
  have HNe : Hid (w.heap.size ≠ b ∧ w.heap.size ≠ m) := ⟨by omega, by omega⟩
  have HNr : Hid (w.heap.size ≠ r) := by obtain ⟨fa, fc, ka, kc, hr⟩ := hp.rf; have := hr.lt; show _ ≠ _; omega
  have HS0 : Hid ((w.alloc (acC x)).drew.cell? ⟨w.heap.size, 1, none⟩ = some (.int .i64 x.n) ∧ (w.alloc (acC x)).drew.cell? ⟨w.heap.size, 2, none⟩ = some (.int .i64 x.z) ∧ (w.alloc (acC x)).drew.cell? ⟨w.heap.size, 3, none⟩ = some (.string x.d) ∧ (w.alloc (acC x)).drew.cell? ⟨w.heap.size, 4, none⟩ = some (.slice x.ka x.K.length x.kc)) := HC0.out.2
  have HS1 : Hid (∀ w2, Td (w.alloc (acC x)).drew w2 b m → w2.cell? ⟨w.heap.size, 1, none⟩ = some (.int .i64 x.n) ∧ w2.cell? ⟨w.heap.size, 2, none⟩ = some (.int .i64 x.z) ∧ w2.cell? ⟨w.heap.size, 3, none⟩ = some (.string x.d) ∧ w2.cell? ⟨w.heap.size, 4, none⟩ = some (.slice x.ka x.K.length x.kc)) := fun w2 k => (cells_td (w := (w.alloc (acC x)).drew) HC0.out HNe.out.1 HNe.out.2 k).2
  have HS2 : Hid (∀ w2 w3, Td (w.alloc (acC x)).drew w2 b m → Tr w2 w3 r → w3.cell? ⟨w.heap.size, 1, none⟩ = some (.int .i64 x.n) ∧ w3.cell? ⟨w.heap.size, 2, none⟩ = some (.int .i64 x.z) ∧ w3.cell? ⟨w.heap.size, 3, none⟩ = some (.string x.d) ∧ w3.cell? ⟨w.heap.size, 4, none⟩ = some (.slice x.ka x.K.length x.kc)) := fun w2 w3 k k3 => by
    obtain ⟨q1, q2, q3, q4⟩ := HS1.out w2 k
    have ne : ∀ o, (some (⟨w.heap.size, o, none⟩ : Addr).block) ≠ some r := fun o e => HNr.out (by injection e)
    exact ⟨k3.cell q1 (ne 1), k3.cell q2 (ne 2), k3.cell q3 (ne 3), k3.cell q4 (ne 4)⟩
  clear hp hab hx hA0 hkb
  generalize Dk.craE s = eA at *
  generalize Dk.craS s x.K = sA at *
  obtain ⟨xk, xn, xz, xd, xa, xc, xK⟩ := x
  simp only at *
  subst hk
  have hq : (eA == eA) = true := by simp
  go_enter Try.func13, Try.ntmps13
  go_upto_region 13 with fail
  refine wp_region_held_drew (S := (fun w' => w'.cell? ⟨w.heap.size, 1, none⟩ = some (.int .i64 xn) ∧ w'.cell? ⟨w.heap.size, 2, none⟩ = some (.int .i64 xz) ∧ w'.cell? ⟨w.heap.size, 3, none⟩ = some (.string xd) ∧ w'.cell? ⟨w.heap.size, 4, none⟩ = some (.slice xa xK.length xc))) (by kernel_rfl) (by first | with_reducible exact hHeld | with_reducible exact HS0.out | with_reducible exact HS2.out _ _ HT2.out HT3.out | with_reducible exact HS1.out _ HT2.out) (fun hHeld => ?_)
  refine take_yes 0 78 (v := ?_) rfl rfl (by kernel_rfl) (by kernel_rfl) (by kernel_rfl) (fun _ _ _ h => h) (by rfl) ?_ hHeld ?_
  rotate_left
  · (intro w hSw; (try dsimp only at hSw); go_simp; try with_reducible rfl)
  simp only [Act.put, List.setIfInBounds_toArray, List.set_cons_zero, List.set_cons_succ]
  refine take_yes 1 79 (v := ?_) rfl rfl (by kernel_rfl) (by kernel_rfl) (by kernel_rfl) (fun _ _ _ h => h) (by rfl) ?_ hHeld ?_
  rotate_left
  · (intro w hSw; (try dsimp only at hSw); go_simp; try with_reducible rfl)
  simp only [Act.put, List.setIfInBounds_toArray, List.set_cons_zero, List.set_cons_succ]
  refine take_yes 2 80 (v := ?_) rfl rfl (by kernel_rfl) (by kernel_rfl) (by kernel_rfl) (fun _ _ _ h => h) (by rfl) ?_ hHeld ?_
  rotate_left
  · (intro w hSw; (try dsimp only at hSw); go_simp; try with_reducible rfl)
  simp only [Act.put, List.setIfInBounds_toArray, List.set_cons_zero, List.set_cons_succ]
  refine take_yes 4 82 (v := ?_) rfl rfl (by kernel_rfl) (by kernel_rfl) (by kernel_rfl) (fun _ _ _ h => h) (by rfl) ?_ hHeld ?_
  rotate_left
  · (intro w hSw; (try dsimp only at hSw); go_simp; try with_reducible rfl)
  simp only [Act.put, List.setIfInBounds_toArray, List.set_cons_zero, List.set_cons_succ]
  refine take_yes 5 83 (v := ?_) rfl rfl (by kernel_rfl) (by kernel_rfl) (by kernel_rfl) (fun _ _ _ h => h) (by rfl) ?_ hHeld ?_
  rotate_left
  · (intro w hSw; (try dsimp only at hSw); go_simp; try with_reducible rfl)
  simp only [Act.put, List.setIfInBounds_toArray, List.set_cons_zero, List.set_cons_succ]
  refine take_yes 6 84 (v := ?_) rfl rfl (by kernel_rfl) (by kernel_rfl) (by kernel_rfl) (fun _ _ _ h => h) (by rfl) ?_ hHeld ?_
  rotate_left
  · (intro w hSw; (try dsimp only at hSw); go_simp; try with_reducible rfl)
  simp only [Act.put, List.setIfInBounds_toArray, List.set_cons_zero, List.set_cons_succ]
  refine wpAnyH_ready (rs := [3]) (by kernel_rfl) (by simp) (AllReadyH.cons rfl (fun K hK => ?_) AllReadyH.nil)
  go_simp
  (go_at_call 23; refine H1.out.mono ?_; rintro e w2 ⟨rfl, hp2, ht2⟩; have HP2 := Lib.hid hp2; have HT2 := Lib.hid ht2; clear hp2 ht2)
  (try go_wp2_with fail)
  refine hK.out _ _ (by first | with_reducible exact hHeld | with_reducible exact HS0.out | with_reducible exact HS2.out _ _ HT2.out HT3.out | with_reducible exact HS1.out _ HT2.out) (fun hHeldN => ?_)
  clear hHeld hK K
  have hHeld := hHeldN
  clear hHeldN
  refine wpAnyH_ready (rs := [7]) (by kernel_rfl) (by simp) (AllReadyH.cons rfl (fun K hK => ?_) AllReadyH.nil)
  go_simp
  (go_at_call 34; refine (H2.out _ HP2.out).mono ?_; rintro e w3 ⟨rfl, hp3, ht3⟩; have HP3 := Lib.hid hp3; have HT3 := Lib.hid ht3; clear hp3 ht3)
  (try go_wp2_with fail)
  refine hK.out _ _ (by first | with_reducible exact hHeld | with_reducible exact HS0.out | with_reducible exact HS2.out _ _ HT2.out HT3.out | with_reducible exact HS1.out _ HT2.out) (fun hHeldN => ?_)
  clear hHeld hK K
  have hHeld := hHeldN
  clear hHeldN
  refine take_yes 8 86 (v := ?_) rfl rfl (by kernel_rfl) (by kernel_rfl) (by kernel_rfl) (fun _ _ _ h => h) (by rfl) ?_ hHeld ?_
  rotate_left
  · (intro w hSw; (try dsimp only at hSw); go_simp; try with_reducible rfl)
  simp only [Act.put, List.setIfInBounds_toArray, List.set_cons_zero, List.set_cons_succ]
  refine take_yes 9 6 (v := ?_) rfl rfl (by kernel_rfl) (by kernel_rfl) (by kernel_rfl) (fun _ _ _ h => h) (by rfl) ?_ hHeld ?_
  rotate_left
  · (intro w hSw; (try dsimp only at hSw); go_simp; try with_reducible rfl)
  simp only [Act.put, List.setIfInBounds_toArray, List.set_cons_zero, List.set_cons_succ]
  refine wpAnyH_done (by kernel_rfl) ?_ _
  go_wp2
  go_ret
  exact ⟨rfl, HP3.out⟩
set_option maxHeartbeats 8000000 in
set_option maxRecDepth 100000 in
theorem does_6 (hp : Pq a w b m r s s) (x : Ac) (p0 : ¬ x.k = 0) (p1 : ¬ x.k = 1) (p2 : ¬ x.k = 2) (p3 : ¬ x.k = 3) (p4 : ¬ x.k = 4) (p5 : ¬ x.k = 5) : Calls Try.prog 13 #[ptr b, ptr r, .agg #[.int .i64 x.k, .int .i64 x.n, .int .i64 x.z, .string x.d, .slice x.ka x.K.length x.kc]] w fun e w' => e = .returned (.bool true) ∧ Pq a w' b m r (plS s x) (plS s x) := by
  rw [pl6 p0 p1 p2 p3 p4 p5]
  have H2 := Lib.hid (pq_rbo (hp.up ((Gr.refl w).alloc (o := acC x))))
  have H1 : Hid (∀ w2, Pq a w2 b m r s (Dk.booS s) → Calls Try.prog 24 #[ptr b] w2 fun e w' => e = .returned (.int .i64 0) ∧ Pq a w' b m r (Dk.booS s) (Dk.booS s)) := fun w2 h2 => pq_boo h2
  clear hp
  have q0 : (x.k == 0) = false := by simpa using p0
  have q1 : (x.k == 1) = false := by simpa using p1
  have q2 : (x.k == 2) = false := by simpa using p2
  have q3 : (x.k == 3) = false := by simpa using p3
  have q4 : (x.k == 4) = false := by simpa using p4
  have q5 : (x.k == 5) = false := by simpa using p5
  obtain ⟨xk, xn, xz, xd, xa, xc, xK⟩ := x
  simp only at *
  go_enter Try.func13, Try.ntmps13
  go_wp2_with fail
  refine H2.out.mono ?_
  rintro e w2 ⟨rfl, hp2, _⟩
  have HP2 := Lib.hid hp2
  clear hp2 H2
  go_wp2_with fail
  refine (H1.out _ HP2.out).mono ?_
  rintro e w3 ⟨rfl, hp3⟩
  have HP3 := Lib.hid hp3
  clear hp3
  go_wp2
  go_ret
  exact ⟨rfl, HP3.out⟩
theorem does_any (hp : Pq a w b m r s s) (x : Ac) (hab : Ab a x) : Calls Try.prog 13 #[ptr b, ptr r, .agg #[.int .i64 x.k, .int .i64 x.n, .int .i64 x.z, .string x.d, .slice x.ka x.K.length x.kc]] w fun e w' => e = .returned (.bool true) ∧ Pq a w' b m r (plS s x) (plS s x) := by
  by_cases p0 : x.k = 0
  · exact does_0 hp x hab p0
  by_cases p1 : x.k = 1
  · exact does_1 hp x hab p1
  by_cases p2 : x.k = 2
  · exact does_2 hp x hab p2
  by_cases p3 : x.k = 3
  · exact does_3 hp x hab p3
  by_cases p4 : x.k = 4
  · exact does_4 hp x hab p4
  by_cases p5 : x.k = 5
  · exact does_5 hp x hab p5
  exact does_6 hp x p0 p1 p2 p3 p4 p5
end Go.Proofs.Ytpnlebegenkdkaa
