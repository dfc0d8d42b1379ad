/- For every input the law BookOrder answers true: definitions may be added in either order, with the same book, if none is refused; each of them is found. -/
import Derived.Test.YtfobfpigbfepoaaTLBOrder18
import Derived.Deep.DeepCutAuto
namespace Go.Proofs.Ytfobfpigbfepoaa
open Go.RowKit
theorem hold4 {a b : World} (g : Gr a b) {q0 q1 q2 q3 : Addr} {v0 v1 v2 v3 : Value} (h0 : a.cell? q0 = some v0) (h1 : a.cell? q1 = some v1) (h2 : a.cell? q2 = some v2) (h3 : a.cell? q3 = some v3) : Gr a b ∧ b.cell? q0 = some v0 ∧ b.cell? q1 = some v1 ∧ b.cell? q2 = some v2 ∧ b.cell? q3 = some v3 := ⟨g, g.keep h0, g.keep h1, g.keep h2, g.keep h3⟩
def eqB (A B : List Bk.Dn) : Bool := decide (A.length = B.length) && (List.range A.length).all (fun j => eqD (A.getD j ⟨⟨#[]⟩, []⟩).nm (A.getD j ⟨⟨#[]⟩, []⟩).L (B.getD j ⟨⟨#[]⟩, []⟩).nm (B.getD j ⟨⟨#[]⟩, []⟩).L)
theorem getD_at (A : List Bk.Dn) (j : Nat) (h : j < A.length) : A.getD j ⟨⟨#[]⟩, []⟩ = A[j] := by rw [List.getD_eq_getElem?_getD, List.getElem?_eq_getElem h]; rfl
theorem eqL_refl (L : List Df.Stp) : eqL L L = true := (eqL_iff L L).2 rfl
theorem eqB_refl (A : List Bk.Dn) : eqB A A = true := by
  unfold eqB
  rw [decide_eq_true rfl, Bool.true_and, List.all_eq_true]
  intro j _
  unfold eqD
  rw [decide_eq_true rfl, eqL_refl]; rfl
theorem eqB_eq {A B : List Bk.Dn} (h : eqB A B = true) : A = B := by
  unfold eqB at h
  rw [Bool.and_eq_true, decide_eq_true_eq, List.all_eq_true] at h
  obtain ⟨h1, h2⟩ := h
  refine List.ext_getElem h1 fun j hj hj' => ?_
  have h3 := h2 j (List.mem_range.2 hj)
  rw [getD_at A j hj, getD_at B j hj'] at h3
  unfold eqD at h3
  rw [Bool.and_eq_true, decide_eq_true_eq] at h3
  exact Bk.dn_ext h3.1 ((eqL_iff _ _).1 h3.2)
set_option maxHeartbeats 4000000 in
set_option maxRecDepth 100000 in
theorem refSame10_any (A B : List Dm) (ad : Option Addr) (cap : Nat) (ad2 : Option Addr) (cap2 : Nat) (w : World) (hA : BkAt w ad A) (hB : BkAt w ad2 B) (hn : A.length ≤ 9223372036854775807) :
    Calls Try.prog 15 #[.slice ad A.length cap, .slice ad2 B.length cap2] w fun e w' => e = .returned (.bool (eqB (dns A) (dns B))) ∧ Gr w w' := by
  have HA := Lib.hid hA
  have HB := Lib.hid hB
  clear hA hB
  by_cases hl : A.length = B.length
  · have hli : ((A.length : Int) != (B.length : Int)) = false := by simp [hl]
    have HL : Hid (A.length = B.length) := hl
    clear hl
    go_enter Try.func15, Try.ntmps15
    go_wp2
    go_loopw [5] (fun s5 wr => ∃ k : Nat, s5 = .int .i64 k ∧ k ≤ A.length ∧ (∀ j, j < k → eqD ((dns A).getD j ⟨⟨#[]⟩, []⟩).nm ((dns A).getD j ⟨⟨#[]⟩, []⟩).L ((dns B).getD j ⟨⟨#[]⟩, []⟩).nm ((dns B).getD j ⟨⟨#[]⟩, []⟩).L = true) ∧ Gr w wr) (fun s5 _ => A.length - (intOf s5).toNat)
    case atStart => exact ⟨0, rfl, Nat.zero_le _, fun j h => absurd h (Nat.not_lt_zero _), Gr.refl _⟩
    case round =>
      obtain ⟨k, rfl, hk, hok, hg⟩ := hrel
      have HG : Hid (Gr w wr) := hg
      have HK := Lib.hid hok
      clear hg hok
      by_cases hlt : k < A.length
      · have hlt2 : k < B.length := by have := HL.out; omega
        obtain ⟨b, off, rfl, hb, d0, d1⟩ := DmsAt.at HA.out.row k hlt
        obtain ⟨b', off', rfl, hb', e0, e1⟩ := DmsAt.at HB.out.row k hlt2
        have d0 := HG.out.keep d0
        have d1 := HG.out.keep d1
        have e0 := HG.out.keep e0
        have e1 := HG.out.keep e1
        have hbw : b < wr.heap.size := Nat.lt_of_lt_of_le hb HG.out.size
        have hbw' : b' < wr.heap.size := Nat.lt_of_lt_of_le hb' HG.out.size
        have hki : (k : Int) < (A.length : Int) := by omega
        have hki2 : (k : Int) < (B.length : Int) := by omega
        have hQ := fun w' (g : Gr w w') => refEqual_any A[k].nm A[k].L A[k].ad A[k].cap B[k].nm B[k].L B[k].ad B[k].cap w' ((HA.out.st _ (List.getElem_mem hlt)).gr g) ((HB.out.st _ (List.getElem_mem hlt2)).gr g) (HA.out.rng _ (List.getElem_mem hlt)).2.1
        have HD : Hid (eqD ((dns A).getD k ⟨⟨#[]⟩, []⟩).nm ((dns A).getD k ⟨⟨#[]⟩, []⟩).L ((dns B).getD k ⟨⟨#[]⟩, []⟩).nm ((dns B).getD k ⟨⟨#[]⟩, []⟩).L = eqD A[k].nm A[k].L B[k].nm B[k].L) := by
          show _ = _
          rw [getD_at _ k (by rw [dns_len]; exact hlt), getD_at _ k (by rw [dns_len]; exact hlt2), dns_get A k hlt, dns_get B k hlt2]; rfl
        generalize A[k] = x at *
        generalize B[k] = y at *
        generalize hq : eqD x.nm x.L y.nm y.L = q at *
        have HQ : Hid (∀ w', Gr w w' → Calls Try.prog 12 #[.agg #[.string x.nm, .slice x.ad x.L.length x.cap], .agg #[.string y.nm, .slice y.ad y.L.length y.cap]] w' fun e w2 => e = .returned (.bool q) ∧ Gr w' w2) := hQ
        clear hQ hq
        go_wp2_with fail
        refine wp_region_held_drew (S := (fun w' => Gr wr w' ∧ w'.cell? ⟨b, off + k * 2, none⟩ = some (.string x.nm) ∧ w'.cell? ⟨b, off + k * 2 + 1, none⟩ = some (.slice x.ad x.L.length x.cap) ∧ w'.cell? ⟨b', off' + k * 2, none⟩ = some (.string y.nm) ∧ w'.cell? ⟨b', off' + k * 2 + 1, none⟩ = some (.slice y.ad y.L.length y.cap))) (by kernel_rfl) (by exact hold4 (by (repeat' (first | with_reducible exact Gr.refl _ | with_reducible refine Gr.set ?_ _ ?_ _ | with_reducible refine Gr.alloc ?_ | with_reducible refine Gr.drew ?_ | with_reducible refine Gr.trans ?_ (by assumption))) <;> (first | (simp; done) | (simp; omega) | omega)) d0 d1 e0 e1) (fun hHeld => ?_)
        refine take_yes 0 17 (v := ?_) rfl rfl (by kernel_rfl) (by kernel_rfl) (by kernel_rfl) (fun _ _ _ h => h) (by rfl) ?_ hHeld ?_
        rotate_left
        · (intro w hSw; (try dsimp only at hSw); go_simp; try with_reducible rfl)
        simp only [Act.put, List.setIfInBounds_toArray, List.set_cons_zero, List.set_cons_succ]
        refine take_yes 1 18 (v := ?_) rfl rfl (by kernel_rfl) (by kernel_rfl) (by kernel_rfl) (fun _ _ _ h => h) (by rfl) ?_ hHeld ?_
        rotate_left
        · (intro w hSw; (try dsimp only at hSw); go_simp; try with_reducible rfl)
        simp only [Act.put, List.setIfInBounds_toArray, List.set_cons_zero, List.set_cons_succ]
        refine take_yes 2 19 (v := ?_) rfl rfl (by kernel_rfl) (by kernel_rfl) (by kernel_rfl) (fun _ _ _ h => h) (by rfl) ?_ hHeld ?_
        rotate_left
        · (intro w hSw; (try dsimp only at hSw); go_simp; try with_reducible rfl)
        simp only [Act.put, List.setIfInBounds_toArray, List.set_cons_zero, List.set_cons_succ]
        refine take_yes 3 20 (v := ?_) rfl rfl (by kernel_rfl) (by kernel_rfl) (by kernel_rfl) (fun _ _ _ h => h) (by rfl) ?_ hHeld ?_
        rotate_left
        · (intro w hSw; (try dsimp only at hSw); go_simp; try with_reducible rfl)
        simp only [Act.put, List.setIfInBounds_toArray, List.set_cons_zero, List.set_cons_succ]
        refine take_yes 4 21 (v := ?_) rfl rfl (by kernel_rfl) (by kernel_rfl) (by kernel_rfl) (fun _ _ _ h => h) (by rfl) ?_ hHeld ?_
        rotate_left
        · (intro w hSw; (try dsimp only at hSw); go_simp; try with_reducible rfl)
        simp only [Act.put, List.setIfInBounds_toArray, List.set_cons_zero, List.set_cons_succ]
        refine take_yes 5 22 (v := ?_) rfl rfl (by kernel_rfl) (by kernel_rfl) (by kernel_rfl) (fun _ _ _ h => h) (by rfl) ?_ hHeld ?_
        rotate_left
        · (intro w hSw; (try dsimp only at hSw); go_simp; try with_reducible rfl)
        simp only [Act.put, List.setIfInBounds_toArray, List.set_cons_zero, List.set_cons_succ]
        refine take_yes 6 23 (v := ?_) rfl rfl (by kernel_rfl) (by kernel_rfl) (by kernel_rfl) (fun _ _ _ h => h) (by rfl) ?_ hHeld ?_
        rotate_left
        · (intro w hSw; (try dsimp only at hSw); go_simp; try with_reducible rfl)
        simp only [Act.put, List.setIfInBounds_toArray, List.set_cons_zero, List.set_cons_succ]
        refine take_yes 7 24 (v := ?_) rfl rfl (by kernel_rfl) (by kernel_rfl) (by kernel_rfl) (fun _ _ _ h => h) (by rfl) ?_ hHeld ?_
        rotate_left
        · (intro w hSw; (try dsimp only at hSw); go_simp; try with_reducible rfl)
        simp only [Act.put, List.setIfInBounds_toArray, List.set_cons_zero, List.set_cons_succ]
        refine wpAnyH_ready (rs := [8]) (by kernel_rfl) (by simp) (AllReadyH.cons rfl (fun K hK => ?_) AllReadyH.nil)
        go_simp
        (go_at_call 12; refine (HQ.out _ (HG.out.trans (Gr.refl wr).drew)).mono ?_; rintro e wn ⟨rfl, hgn⟩)
        (try go_wp2_with fail)
        refine hK.out _ _ (by exact hold4 (by (repeat' (first | with_reducible exact Gr.refl _ | with_reducible refine Gr.set ?_ _ ?_ _ | with_reducible refine Gr.alloc ?_ | with_reducible refine Gr.drew ?_ | with_reducible refine Gr.trans ?_ (by assumption))) <;> (first | (simp; done) | (simp; omega) | omega)) d0 d1 e0 e1) (fun hHeldN => ?_)
        clear hHeld hK K
        have hHeld := hHeldN
        clear hHeldN
        refine take_yes 9 26 (v := ?_) rfl rfl (by kernel_rfl) (by kernel_rfl) (by kernel_rfl) (fun _ _ _ h => h) (by rfl) ?_ hHeld ?_
        rotate_left
        · (intro w hSw; (try dsimp only at hSw); go_simp; try with_reducible rfl)
        simp only [Act.put, List.setIfInBounds_toArray, List.set_cons_zero, List.set_cons_succ]
        refine wpAnyH_done (by kernel_rfl) ?_ _
        cases q with
        | false =>
          have HF : Hid (eqB (dns A) (dns B) = false) := by
            show _ = _
            cases e : eqB (dns A) (dns B) with
            | false => rfl
            | true =>
              have h := HD.out
              rw [eqB_eq e] at h
              unfold eqD at h
              rw [decide_eq_true rfl, eqL_refl] at h; cases h
          go_wp2
          go_ret
          exact ⟨by (rw [HF.out]) <;> rfl, HG.out.trans (by (repeat' (first | with_reducible exact Gr.refl _ | with_reducible refine Gr.set ?_ _ ?_ _ | with_reducible refine Gr.alloc ?_ | with_reducible refine Gr.drew ?_ | with_reducible refine Gr.trans ?_ (by assumption))) <;> (first | (simp; done) | (simp; omega) | omega))⟩
        | true =>
          have HK2 : Hid (∀ j, j < k + 1 → eqD ((dns A).getD j ⟨⟨#[]⟩, []⟩).nm ((dns A).getD j ⟨⟨#[]⟩, []⟩).L ((dns B).getD j ⟨⟨#[]⟩, []⟩).nm ((dns B).getD j ⟨⟨#[]⟩, []⟩).L = true) := by
            intro j h
            by_cases e : j = k
            · subst e; exact HD.out
            · exact HK.out j (by omega)
          clear HK HD
          go_wp2
          go_roundw
          case rel => exact ⟨k + 1, by go_num, by omega, HK2.out, HG.out.trans (by (repeat' (first | with_reducible exact Gr.refl _ | with_reducible refine Gr.set ?_ _ ?_ _ | with_reducible refine Gr.alloc ?_ | with_reducible refine Gr.drew ?_ | with_reducible refine Gr.trans ?_ (by assumption))) <;> (first | (simp; done) | (simp; omega) | omega))⟩
          case measure => simp [intOf]; omega
      · have hge : ¬ ((k : Int) < (A.length : Int)) := by omega
        have HF : Hid (eqB (dns A) (dns B) = true) := by
          show _ = _
          unfold eqB
          rw [decide_eq_true (by rw [dns_len, dns_len]; exact HL.out), Bool.true_and, List.all_eq_true]
          intro j hj
          exact HK.out j (by have := List.mem_range.1 hj; rw [dns_len] at this; omega)
        go_wp2
        go_ret
        exact ⟨by (rw [HF.out]) <;> rfl, HG.out⟩
  · have hli : ((A.length : Int) != (B.length : Int)) = true := by rw [bne_iff_ne]; omega
    have HF : Hid (eqB (dns A) (dns B) = false) := by
      show _ = _
      unfold eqB
      rw [decide_eq_false (by rw [dns_len, dns_len]; exact hl)]; rfl
    go_enter Try.func15, Try.ntmps15
    go_wp2
    go_ret
    exact ⟨by (rw [HF.out]) <;> rfl, (by (repeat' (first | with_reducible exact Gr.refl _ | with_reducible refine Gr.set ?_ _ ?_ _ | with_reducible refine Gr.alloc ?_ | with_reducible refine Gr.drew ?_ | with_reducible refine Gr.trans ?_ (by assumption))) <;> (first | (simp; done) | (simp; omega) | omega))⟩
def fewB (D : List Dm) : Bool := decide (D.length ≤ 100) && D.all (fun d => decide (d.L.length ≤ 100))
theorem few_iff (D : List Dm) : fewB D = true ↔ D.length ≤ 100 ∧ ∀ d ∈ D, d.L.length ≤ 100 := by
  unfold fewB; simp only [Bool.and_eq_true, decide_eq_true_eq, List.all_eq_true]
set_option maxHeartbeats 4000000 in
set_option maxRecDepth 100000 in
theorem few10_any (D : List Dm) (ad : Option Addr) (cap : Nat) (w : World) (hD : DmsAt w ad D) (hn : D.length ≤ 9223372036854775807) (hm : ∀ d ∈ D, d.L.length ≤ 9223372036854775807) :
    Calls Try.prog 6 #[.slice ad D.length cap] w fun e w' => e = .returned (.bool (fewB D)) ∧ Gr w w' := by
  have HD := Lib.hid hD
  have HM := Lib.hid hm
  clear hD hm
  by_cases hl : (100 : Int) < (D.length : Int)
  · have HF : Hid (fewB D = false) := by show _ = _; unfold fewB; rw [decide_eq_false (by omega)]; rfl
    have hl2 : 100 < D.length := by omega
    go_enter Try.func6, Try.ntmps6
    go_wp2
    go_ret
    exact ⟨by (rw [HF.out]) <;> rfl, (by (repeat' (first | with_reducible exact Gr.refl _ | with_reducible refine Gr.set ?_ _ ?_ _ | with_reducible refine Gr.alloc ?_ | with_reducible refine Gr.drew ?_ | with_reducible refine Gr.trans ?_ (by assumption))) <;> (first | (simp; done) | (simp; omega) | omega))⟩
  · have hl2 : ¬ 100 < D.length := by omega
    go_enter Try.func6, Try.ntmps6
    go_wp2
    go_loopw [3] (fun s3 wr => ∃ k : Nat, s3 = .int .i64 k ∧ k ≤ D.length ∧ (∀ j (h : j < D.length), j < k → D[j].L.length ≤ 100) ∧ Gr w wr) (fun s3 _ => D.length - (intOf s3).toNat)
    case atStart => exact ⟨0, rfl, Nat.zero_le _, fun j _ h => absurd h (Nat.not_lt_zero _), Gr.refl _⟩
    case round =>
      obtain ⟨k, rfl, hk, hok, hg⟩ := hrel
      have HG : Hid (Gr w wr) := hg
      have HK := Lib.hid hok
      clear hg hok
      by_cases hlt : k < D.length
      · obtain ⟨b, off, rfl, hb, d0, d1⟩ := DmsAt.at HD.out k hlt
        have d1 := HG.out.keep d1
        have hbw : b < wr.heap.size := Nat.lt_of_lt_of_le hb HG.out.size
        have hki : (k : Int) < (D.length : Int) := by omega
        have hbig := HM.out _ (List.getElem_mem hlt)
        clear d0
        by_cases hq : (100 : Int) < (D[k].L.length : Int)
        · have HF : Hid (fewB D = false) := by
            show _ = _
            cases e : fewB D with
            | false => rfl
            | true => have := ((few_iff D).1 e).2 _ (List.getElem_mem hlt); omega
          have hq2 : 100 < D[k].L.length := by omega
          generalize D[k] = x at *
          go_wp2
          go_ret
          exact ⟨by (rw [HF.out]) <;> rfl, HG.out⟩
        · have hq2 : ¬ 100 < D[k].L.length := by omega
          have HQ : Hid (∀ j (h : j < D.length), j < k + 1 → D[j].L.length ≤ 100) := by
            intro j h hj
            by_cases e : j = k
            · subst e; omega
            · exact HK.out j h (by omega)
          generalize D[k] = x at *
          go_wp2
          go_roundw
          case rel => exact ⟨k + 1, by go_num, by omega, HQ.out, HG.out⟩
          case measure => simp [intOf]; omega
      · have hge : ¬ ((k : Int) < (D.length : Int)) := by omega
        have HF : Hid (fewB D = true) := by
          refine (few_iff D).2 ⟨by omega, fun d hd => ?_⟩
          obtain ⟨j, hj, rfl⟩ := List.getElem_of_mem hd
          exact HK.out j hj (by omega)
        go_wp2
        go_ret
        exact ⟨by (rw [HF.out]) <;> rfl, HG.out⟩
end Go.Proofs.Ytfobfpigbfepoaa
namespace Go.Proofs.Ytfobfpigbfepoaa.Bk
theorem nms_mem (D : List Dn) (s : ByteArray) : s ∈ nms D ↔ ∃ d ∈ D, d.nm = s := by unfold nms; rw [List.mem_map]
theorem up_same : ∀ (A B : List Dn), upB (nms A) = true → upB (nms B) = true → (∀ d, d ∈ A ↔ d ∈ B) → A = B
  | [], [], _, _, _ => rfl
  | [], b :: B, _, _, h => absurd ((h b).2 (by simp)) (by simp)
  | a :: A, [], _, _, h => absurd ((h a).1 (by simp)) (by simp)
  | a :: A, b :: B, hA, hB, h => by
    have low : ∀ (x : Dn) (L : List Dn), upB (nms (x :: L)) = true → ∀ d ∈ L, lt x.nm d.nm = true := by
      intro x L hu d hd
      obtain ⟨j, hj, rfl⟩ := List.getElem_of_mem hd
      have := up_lt hu 0 (j + 1) (by omega) (by rw [nms_len]; simpa using hj)
      rw [nms_get (x :: L) 0 (by simp), nms_get (x :: L) (j + 1) (by simpa using hj)] at this
      simpa using this
    have tl : ∀ (x : Dn) (L : List Dn), upB (nms (x :: L)) = true → upB (nms L) = true := by
      intro x L hu
      cases L with
      | nil => rfl
      | cons y L =>
        have : upB (x.nm :: y.nm :: nms L) = true := hu
        rw [upB, Bool.and_eq_true] at this
        exact this.2
    have hab : a = b := by
      rcases List.mem_cons.1 ((h a).1 (by simp)) with e | ha
      · exact e
      · rcases List.mem_cons.1 ((h b).2 (by simp)) with e | hb
        · exact e.symm
        · have h1 := low b B hB a ha
          have h2 := low a A hA b hb
          rw [lt_asymm h1] at h2; cases h2
    subst hab
    have hAA : ∀ d, d ∈ A ↔ d ∈ B := by
      intro d
      constructor
      · intro hd
        rcases List.mem_cons.1 ((h d).1 (by simp [hd])) with e | hd2
        · subst e
          have := low d A hA d hd
          rw [lt_irrefl] at this; cases this
        · exact hd2
      · intro hd
        rcases List.mem_cons.1 ((h d).2 (by simp [hd])) with e | hd2
        · subst e
          have := low d B hB d hd
          rw [lt_irrefl] at this; cases this
        · exact hd2
    rw [up_same A B (tl a A hA) (tl a B hB) hAA]
theorem add_mem : ∀ (M D : List Dn), addE D M = 0 → ∀ d, d ∈ addD D M ↔ d ∈ D ∨ d ∈ M
  | [], D, _, d => by simp [addD]
  | x :: M, D, h, d => by
    simp only [addE, addD] at h ⊢
    by_cases hp : putE D x = 0
    · rw [if_pos hp] at h ⊢
      rw [add_mem M (ins D x) h d, ins_mem, List.mem_cons]
      constructor
      · rintro ((h | h) | h)
        · exact Or.inr (Or.inl h)
        · exact Or.inl h
        · exact Or.inr (Or.inr h)
      · rintro (h | h | h)
        · exact Or.inl (Or.inr h)
        · exact Or.inl (Or.inl h)
        · exact Or.inr h
    · rw [if_neg hp] at h; exact absurd h hp
theorem add_len : ∀ (M D : List Dn), addE D M = 0 → (addD D M).length = D.length + M.length
  | [], D, _ => by simp [addD]
  | x :: M, D, h => by
    simp only [addE, addD] at h ⊢
    by_cases hp : putE D x = 0
    · rw [if_pos hp] at h ⊢
      rw [add_len M (ins D x) h, ins_len, List.length_cons]; omega
    · rw [if_neg hp] at h; exact absurd h hp
theorem add_ok : ∀ (M D : List Dn), mayB D = true → (∀ d ∈ M, okB d = true) → (∀ d ∈ M, d.nm ∉ nms D) → (M.map Dn.nm).Nodup → D.length + M.length ≤ 8 → addE D M = 0
  | [], _, _, _, _, _, _ => rfl
  | x :: M, D, hm, h1, h2, h3, h4 => by
    have hp : putE D x = 0 := put_zero.2 ⟨h1 x (by simp), h2 x (by simp), by rw [List.length_cons] at h4; omega⟩
    simp only [addE]
    rw [if_pos hp]
    rw [List.map_cons, List.nodup_cons] at h3
    refine add_ok M (ins D x) (ins_may hm hp) (fun d hd => h1 d (by simp [hd])) (fun d hd hn => ?_) h3.2 (by rw [ins_len]; rw [List.length_cons] at h4; omega)
    obtain ⟨y, hy, e⟩ := (nms_mem _ _).1 hn
    rcases (ins_mem D x y).1 hy with rfl | hy
    · exact h3.1 (List.mem_map.2 ⟨d, hd, e.symm⟩)
    · exact h2 d (by simp [hd]) ((nms_mem _ _).2 ⟨y, hy, e⟩)
theorem add_parts : ∀ (M D : List Dn), mayB D = true → addE D M = 0 → (∀ d ∈ M, okB d = true) ∧ (∀ d ∈ M, d.nm ∉ nms D) ∧ (M.map Dn.nm).Nodup
  | [], _, _, _ => by simp
  | x :: M, D, hm, h => by
    simp only [addE] at h
    by_cases hp : putE D x = 0
    · rw [if_pos hp] at h
      obtain ⟨p1, p2, p3⟩ := put_zero.1 hp
      obtain ⟨i1, i2, i3⟩ := add_parts M (ins D x) (ins_may hm hp) h
      refine ⟨?_, ?_, ?_⟩
      · intro d hd
        rcases List.mem_cons.1 hd with rfl | hd
        · exact p1
        · exact i1 d hd
      · intro d hd
        rcases List.mem_cons.1 hd with rfl | hd
        · exact p2
        · intro hn
          obtain ⟨y, hy, e⟩ := (nms_mem _ _).1 hn
          exact i2 d hd ((nms_mem _ _).2 ⟨y, (ins_mem D x y).2 (Or.inr hy), e⟩)
      · rw [List.map_cons, List.nodup_cons]
        refine ⟨fun hm => ?_, i3⟩
        obtain ⟨d, hd, e⟩ := List.mem_map.1 hm
        exact i2 d hd ((nms_mem _ _).2 ⟨x, (ins_mem D x x).2 (Or.inl rfl), e.symm⟩)
    · rw [if_neg hp] at h; exact absurd h hp
theorem add_turned {D M : List Dn} (hm : mayB D = true) (h : addE D M = 0) : addE D M.reverse = 0 ∧ addD D M.reverse = addD D M := by
  obtain ⟨p1, p2, p3⟩ := add_parts M D hm h
  have hl := add_len M D h
  have h8 := ((may_iff _).1 (add_may M D hm h)).1
  have hr : addE D M.reverse = 0 := by
    refine add_ok _ D hm (fun d hd => p1 d (by simpa using hd)) (fun d hd => p2 d (by simpa using hd)) ?_ (by rw [List.length_reverse]; omega)
    rw [List.map_reverse]
    exact List.pairwise_reverse.2 (List.Pairwise.imp (fun h => Ne.symm h) p3)
  refine ⟨hr, up_same _ _ ((may_iff _).1 (add_may _ D hm hr)).2.2 ((may_iff _).1 (add_may _ D hm h)).2.2 fun d => ?_⟩
  rw [add_mem _ D hr d, add_mem _ D h d, List.mem_reverse]
theorem add_found {D M : List Dn} (hm : mayB D = true) (h : addE D M = 0) {d : Dn} (hd : d ∈ M) : fnd (addD D M) d.nm = d ∧ fndB (addD D M) d.nm = true := by
  have hmem := (add_mem M D h d).2 (Or.inr hd)
  obtain ⟨j, hj, rfl⟩ := List.getElem_of_mem hmem
  exact fnd_at (add_may M D hm h) j hj
end Go.Proofs.Ytfobfpigbfepoaa.Bk
namespace Go.Proofs.Ytfobfpigbfepoaa
open Go.ChangeShapes Go.WideShapes Go.ChangeAt Go.RowKit
open Go.ChangeMaps (open_string shut_string)
set_option maxHeartbeats 8000000 in
set_option maxRecDepth 100000 in
theorem bookOrder_walk (D M : List Dm) (ad : Option Addr) (cap : Nat) (adM : Option Addr) (capM : Nat) (w : World) (hB : BkAt w ad D) (hn : D.length ≤ 9223372036854775807) (hM : BkAt w adM M) (hm : M.length ≤ 9223372036854775807) :
    Calls Try.prog 5 #[.slice ad D.length cap, .slice adM M.length capM] w fun e w' => e = .returned (.bool true) ∧ Gr w w' := by
  obtain ⟨i0, hi0, hz0, hz1, hz2⟩ := info_parts infoDef
  have HA : Hid (∀ w', Calls Try.prog 7 #[] w' fun e w2 => e = .returned (.bool true) ∧ Gr w' w2) := fun w' => awake10_any w'
  have HF : Hid (∀ w', Gr w w' → Calls Try.prog 6 #[.slice ad D.length cap] w' fun e w2 => e = .returned (.bool (fewB D)) ∧ Gr w' w2) := fun w' g => few10_any D ad cap w' (hB.row.gr g) hn (fun d hd => (hB.rng d hd).2.1)
  have HH : Hid (∀ w', Gr w w' → Calls Try.prog 6 #[.slice adM M.length capM] w' fun e w2 => e = .returned (.bool (fewB M)) ∧ Gr w' w2) := fun w' g => few10_any M adM capM w' (hM.row.gr g) hm (fun d hd => (hM.rng d hd).2.1)
  have HI : Hid (∀ (N : List Dm) (a : Option Addr) (c : Nat) w', Gr w w' → BkAt w' a N → N.length ≤ 9223372036854775807 → Calls Try.prog 13 #[.slice ad D.length cap, .slice a N.length c] w' fun e w2 => AdR w' (AdD (dns D) (dns N)) (AdE (dns D) (dns N)) e w2) := fun N a c w' g hN hl => add_any D N ad cap a c w' (hB.gr g) hN hn hl
  have HSm : Hid (∀ (R1 R2 : List Dm) (a1 : Option Addr) (c1 : Nat) (a2 : Option Addr) (c2 : Nat) w', BkAt w' a1 R1 → BkAt w' a2 R2 → dns R1 = dns R2 → R1.length ≤ 9223372036854775807 → Calls Try.prog 15 #[.slice a1 R1.length c1, .slice a2 R2.length c2] w' fun e w2 => e = .returned (.bool true) ∧ Gr w' w2) := by
    intro R1 R2 a1 c1 a2 c2 w' h1 h2 he hl
    have := refSame10_any R1 R2 a1 c1 a2 c2 w' h1 h2 hl
    rw [he, eqB_refl] at this
    exact this
  have HMr := Lib.hid hM
  have HZ : Hid (AdE (dns D) (dns M) = 0 → Bk.mayB (dns D) = true ∧ Bk.addE (dns D) (dns M) = 0 ∧ AdD (dns D) (dns M) = Bk.addD (dns D) (dns M)) := by
    intro h
    cases hm : Bk.mayB (dns D) with
    | false => unfold AdE at h; rw [hm] at h; cases h
    | true =>
      unfold AdE at h; rw [if_pos hm] at h
      exact ⟨rfl, h, by unfold AdD; rw [if_pos hm]⟩
  have HNil : Hid (AdE (dns D) (dns M) ≠ 0 → AdD (dns D) (dns M) = []) := by
    intro h
    cases hm : Bk.mayB (dns D) with
    | false => unfold AdD; rw [hm]; rfl
    | true =>
      unfold AdE at h; rw [if_pos hm] at h
      unfold AdD; rw [if_pos hm]; exact Bk.add_no _ _ h
  clear hB hM
  cases hf : fewB D with
  | false =>
    rw [hf] at HF
    go_enter Try.func5, Try.ntmps5
    go_wp2_with fail
    refine (HF.out w (Gr.refl w)).mono ?_
    rintro e w1 ⟨rfl, hg1⟩
    go_wp2_with fail
    refine (HA.out _).mono ?_
    rintro e w2 ⟨rfl, hg2⟩
    go_wp2
    go_ret
    exact ⟨rfl, (by repeat (first | exact Gr.refl _ | refine Gr.alloc ?_ | refine Gr.drew ?_ | refine Gr.trans ?_ (by assumption)))⟩
  | true =>
    rw [hf] at HF
    cases hh : fewB M with
    | false =>
      rw [hh] at HH
      go_enter Try.func5, Try.ntmps5
      go_wp2_with fail
      refine (HF.out w (Gr.refl w)).mono ?_
      rintro e w1 ⟨rfl, hg1⟩
      go_wp2_with fail
      refine (HH.out _ (by repeat (first | exact Gr.refl _ | refine Gr.alloc ?_ | refine Gr.drew ?_ | refine Gr.trans ?_ (by assumption)))).mono ?_
      rintro e w2 ⟨rfl, hg2⟩
      go_wp2_with fail
      refine (HA.out _).mono ?_
      rintro e w3 ⟨rfl, hg3⟩
      go_wp2
      go_ret
      exact ⟨rfl, (by repeat (first | exact Gr.refl _ | refine Gr.alloc ?_ | refine Gr.drew ?_ | refine Gr.trans ?_ (by assumption)))⟩
    | true =>
      rw [hh] at HH
      obtain ⟨hM100, _⟩ := (few_iff M).1 hh
      obtain ⟨hD100, _⟩ := (few_iff D).1 hf
      go_enter Try.func5, Try.ntmps5
      go_wp2_with fail
      refine (HF.out w (Gr.refl w)).mono ?_
      rintro e w1 ⟨rfl, hg1⟩
      go_wp2_with fail
      refine (HH.out _ (by repeat (first | exact Gr.refl _ | refine Gr.alloc ?_ | refine Gr.drew ?_ | refine Gr.trans ?_ (by assumption)))).mono ?_
      rintro e w2 ⟨rfl, hg2⟩
      have HG2 : Hid (Gr w w2) := (by repeat (first | exact Gr.refl _ | refine Gr.alloc ?_ | refine Gr.drew ?_ | refine Gr.trans ?_ (by assumption)))
      clear hg1 hg2 HF HH hf hh
      go_wp2_with fail
      refine (HI.out M adM capM _ HG2.out (HMr.out.gr HG2.out) hm).mono ?_
      rintro e w3 ⟨a1, c1, R1, rfl, hb1, hd1, hg3⟩
      obtain ⟨a1', c1', e1, hl1, hc1, hk1, _⟩ := hb1.at
      cases e1
      have HK1 := Lib.hid hk1
      have HG3 : Hid (Gr w w3) := HG2.out.trans hg3
      have hR1 : R1.length ≤ 9223372036854775807 := by omega
      clear hb1 hk1 hg3
      by_cases hz : AdE (dns D) (dns M) = 0
      · rw [hz]
        obtain ⟨z1, z2, z3⟩ := HZ.out hz
        have HMayD := Lib.hid z1
        have HAd := Lib.hid z2
        have HR1 := Lib.hid (hd1.trans z3)
        have HRl : Hid (R1.length = D.length + M.length) := by
          show _ = _
          have := Bk.add_len _ _ z2
          rw [← z3, ← hd1, dns_len, dns_len, dns_len] at this; exact this
        clear hz z1 z2 z3 hd1 HZ HNil
        have hi1 : IntKind.i64.wrap ((M.length : Int) - 1) = (M.length : Int) - 1 := by rw [IntKind.wrap_i64]; omega
        go_wp2
        go_loopw [7, 8] (fun s7 s8 wr => ∃ (k : Nat) (a : Option Addr) (c : Nat), s8 = .int .i64 ((M.length : Int) - 1 - (k : Int)) ∧ s7 = .slice a (M.reverse.take k).length c ∧ k ≤ M.length ∧ wr.ownsRow w3.heap.size 27 2 (.slice a (M.reverse.take k).length c) (M.reverse.take k).length ((M.reverse.take k).flatMap dmC) ∧ Gr w3 wr) (fun _ s8 _ => (intOf s8 + 1).toNat)
        case atStart => exact ⟨0, none, 0, by simp, by simp, Nat.zero_le _, by simpa using World.ownsRow_nil _ _ _ _, Gr.refl _⟩
        case round =>
          obtain ⟨k, a, c, rfl, rfl, hk, hown, hg⟩ := hrel
          have HG : Hid (Gr w3 wr) := hg
          have HOw := Lib.hid hown
          have hlk : (M.reverse.take k).length = k := by rw [List.length_take, List.length_reverse]; omega
          clear hg hown
          by_cases hlt : k < M.length
          · obtain ⟨m, hm1⟩ : ∃ m : Nat, m = M.length - 1 - k := ⟨_, rfl⟩
            have hml : m < M.length := by omega
            have hmi : (M.length : Int) - 1 - (k : Int) = (m : Int) := by omega
            obtain ⟨b, off, rfl, hb, d0, d1⟩ := DmsAt.at HMr.out.row m hml
            have d0 := (HG3.out.trans HG.out).keep d0
            have d1 := (HG3.out.trans HG.out).keep d1
            have hbw := Nat.lt_of_lt_of_le hb (HG3.out.trans HG.out).size
            have hki : (m : Int) < (M.length : Int) := by omega
            have hm0 : (0 : Int) ≤ (m : Int) := by omega
            have HT : Hid (M.reverse.take (k + 1) = M.reverse.take k ++ [M[m]]) := by
              show _ = _
              rw [List.take_succ_eq_append_getElem (by rw [List.length_reverse]; exact hlt), List.getElem_reverse]
              subst hm1; rfl
            have HM1 := Lib.hid hm1
            have hsm : (M.length : Int) - 1 - ((k + 1 : Nat) : Int) = (m : Int) - 1 := by omega
            have HSM := Lib.hid hsm
            have hw1 : IntKind.i64.wrap ((m : Int) - 1) = (m : Int) - 1 := by rw [IntKind.wrap_i64]; omega
            rw [hmi]
            clear hm1 hmi hsm
            generalize M[m] = x at *
            obtain ⟨xn, xa, xc, xl⟩ := x
            dsimp only at *
            have HNw : Hid (∀ j u, ([(⟨xn, xa, xc, xl⟩ : Dm)].flatMap dmC)[j]? = some u → (wr.alloc (.cells #[.string xn, .slice xa xl.length xc] 27)).cell? ((⟨wr.heap.size, 0, none⟩ : Addr).add j) = some u) := by
              intro j u h
              rw [Addr.add_lit, Nat.zero_add, cell_of_row _ wr.heap.size j _ _ _ (heap_alloc_new wr _)]
              simpa [dmC] using h
            have HO2 := Lib.hid (own_gr2 HOw.out ((Gr.refl wr).alloc (o := .cells #[.string xn, .slice xa xl.length xc] 27)))
            have HLk : Hid ((M.reverse.take k).length = k) := hlk
            have hlb : (M.reverse.take k).length ≤ 100 := by omega
            clear hlk
            generalize hN : M.reverse.take k = N at *
            go_wp2_with (first
              | (at_builtin; refine wpList_append_own _ rfl _ _ 22 rfl w3.heap.size 27 i0 (.agg #[.string ⟨#[]⟩, .slice none 0 0]) 2 40 Try.underlying22 hi0 hz0 hz1 hz2 rfl (by decide) _ _ _ rfl HO2.out ⟨wr.heap.size, 0, none⟩ 1 1 ([(⟨xn, xa, xc, xl⟩ : Dm)].flatMap dmC) rfl rfl HNw.out (dm_one _) (by unfold maxLen; omega) (by omega) (by have := HG.out.size; simp; omega) ?_)
              | fail)
            intro v' w5 hown' hgrow _
            have hown2 : w5.ownsRow w3.heap.size 27 2 v' (M.reverse.take (k + 1)).length ((M.reverse.take (k + 1)).flatMap dmC) := by
              rw [HT.out, List.flatMap_append, List.length_append]; exact hown'
            have hl2 : (M.reverse.take (k + 1)).length = k + 1 := by rw [HT.out, List.length_append, HLk.out]; rfl
            obtain ⟨a', c', e', _⟩ := own_row hown2
            subst e'
            have HOF := Lib.hid hown2
            have HGF : Hid (Gr w3 w5) := HG.out.alloc.grown hgrow (fun b e => (HO2.out.lt b e).1)
            clear hown' hown2 hgrow
            have HL2 : Hid ((M.reverse.take (k + 1)).length = k + 1) := hl2
            clear hl2 HT
            generalize hN2 : M.reverse.take (k + 1) = N2 at *
            go_wp2
            go_roundw
            case rel => exact ⟨k + 1, a', c', by rw [HSM.out], by rw [hN2], by omega, by rw [hN2]; exact HOF.out, HGF.out⟩
            case measure => (have := HM1.out; simp [intOf])
          · have hkM : k = M.length := by omega
            have hge : ¬ ((0 : Int) ≤ (M.length : Int) - 1 - (k : Int)) := by omega
            have hfull : M.reverse.take k = M.reverse := List.take_of_length_le (by rw [List.length_reverse]; omega)
            have HRow := Lib.hid HOw.out
            rw [hfull] at HRow ⊢
            obtain ⟨a9, c9, e9, _, _, hrow9, _⟩ := own_row HRow.out
            cases e9
            have HGr : Hid (Gr w wr) := HG3.out.trans HG.out
            have HBr : Hid (BkAt wr a M.reverse) := ⟨hrow9, fun d hd => (HMr.out.st d (by simpa using hd)).gr HGr.out, fun d hd => HMr.out.rng d (by simpa using hd)⟩
            have HK3 := Lib.hid (HK1.out.gr HG.out)
            have HDr : Hid (dns M.reverse = (dns M).reverse) := by show _ = _; unfold dns; rw [List.map_reverse]
            have HAr : Hid (AdE (dns D) (dns M.reverse) = 0 ∧ AdD (dns D) (dns M.reverse) = dns R1) := by
              obtain ⟨t1, t2⟩ := Bk.add_turned HMayD.out HAd.out
              unfold AdE AdD
              rw [HDr.out, if_pos HMayD.out, if_pos HMayD.out, HR1.out]
              exact ⟨t1, t2⟩
            have hNl : M.reverse.length ≤ 9223372036854775807 := by rw [List.length_reverse]; exact hm
            clear hkM hrow9 HOw HRow hlk hfull
            generalize M.reverse = N at *
            go_wp2_with fail
            refine (HI.out N a c _ HGr.out HBr.out hNl).mono ?_
            rintro e w6 ⟨a2, c2, R2, rfl, hb2, hd2, hg6⟩
            obtain ⟨a2', c2', e2, hl2, hc2, hk2, _⟩ := hb2.at
            cases e2
            rw [HAr.out.1]
            rw [HAr.out.2] at hd2
            have HK6 := Lib.hid (HK3.out.gr hg6)
            have HL6 := Lib.hid hk2
            have HEq : Hid (dns R1 = dns R2) := hd2.symm
            have HG6 : Hid (Gr w w6) := HGr.out.trans hg6
            clear hb2 hk2 hd2 hg6
            go_wp2_with fail
            refine (HSm.out R1 R2 a1 c1 a2 c2 _ HK6.out HL6.out HEq.out hR1).mono ?_
            rintro e w7 ⟨rfl, hg7⟩
            have HK7 := Lib.hid (HK6.out.gr hg7)
            have HG7 : Hid (Gr w w7) := HG6.out.trans hg7
            have hRi : ((R1.length : Int) != (D.length : Int) + (M.length : Int)) = false := by rw [HRl.out]; simp
            have hwr : IntKind.i64.wrap ((D.length : Int) + (M.length : Int)) = (D.length : Int) + (M.length : Int) := by rw [IntKind.wrap_i64]; omega
            clear hg7 HL6 HEq HK6 HSm HI HBr HAr HDr
            have HMy : Hid (∀ w', Gr w7 w' → Calls Try.prog 10 #[.slice a1 R1.length c1] w' fun e w2 => e = .returned (.int .i64 0) ∧ Gr w' w2) := by
              intro w' g
              have := may_any R1 a1 c1 w' (HK7.out.gr g) hR1
              rw [Bk.may_ok (by rw [HR1.out]; exact Bk.add_may _ _ HMayD.out HAd.out)] at this
              exact this
            go_wp2_with fail
            refine (HMy.out _ (Gr.refl _)).mono ?_
            rintro e w8 ⟨rfl, hg8⟩
            have HK8 := Lib.hid (HK7.out.gr hg8)
            have HG8 : Hid (Gr w w8) := HG7.out.trans hg8
            clear hg8 HK7 HMy HK3 HK1 hRi
            go_wp2
            go_loopw [11] (fun s11 wr => ∃ k : Nat, s11 = .int .i64 k ∧ k ≤ M.length ∧ Gr w8 wr) (fun s11 _ => M.length - (intOf s11).toNat)
            case atStart => exact ⟨0, rfl, Nat.zero_le _, Gr.refl _⟩
            case round =>
              obtain ⟨j, rfl, hj, hg⟩ := hrel
              have HGj : Hid (Gr w8 wr) := hg
              clear hg
              by_cases hlt2 : j < M.length
              · obtain ⟨b, off, rfl, hb, d0, d1⟩ := DmsAt.at HMr.out.row j hlt2
                have HD0 := Lib.hid d0
                have HD1 := Lib.hid d1
                have d0 := (HG8.out.trans HGj.out).keep d0
                have d1 := (HG8.out.trans HGj.out).keep d1
                have hbw := Nat.lt_of_lt_of_le hb (HG8.out.trans HGj.out).size
                have hji : (j : Int) < (M.length : Int) := by omega
                have hfd := Bk.add_found HMayD.out HAd.out (d := M[j].dn) (List.mem_map.2 ⟨M[j], List.getElem_mem hlt2, rfl⟩)
                rw [← HR1.out] at hfd
                have HFi : Hid (∀ w', Gr w8 w' → Calls Try.prog 8 #[.slice a1 R1.length c1, .string M[j].nm] w' fun e w2 => ∃ a' c', e = .returned (.tuple #[.agg #[.string M[j].nm, .slice a' M[j].L.length c'], .bool true]) ∧ StpsAt w2 a' M[j].L ∧ Gr w' w2) := by
                  intro w' g
                  have := find_any R1 M[j].nm a1 c1 w' (HK8.out.gr g) hR1
                  rw [show Bk.fnd (dns R1) M[j].nm = M[j].dn from hfd.1, show Bk.fndB (dns R1) M[j].nm = true from hfd.2] at this
                  exact this
                have HEl : Hid (∀ (a' : Option Addr) (c' : Nat) w', Gr w w' → StpsAt w' a' M[j].L → Calls Try.prog 12 #[.agg #[.string M[j].nm, .slice a' M[j].L.length c'], .agg #[.string M[j].nm, .slice M[j].ad M[j].L.length M[j].cap]] w' fun e w2 => e = .returned (.bool true) ∧ Gr w' w2) := by
                  intro a' c' w' g hs
                  have := refEqual_any M[j].nm M[j].L a' c' M[j].nm M[j].L M[j].ad M[j].cap w' hs ((HMr.out.st _ (List.getElem_mem hlt2)).gr g) (HMr.out.rng _ (List.getElem_mem hlt2)).2.1
                  rw [show eqD M[j].nm M[j].L M[j].nm M[j].L = true by unfold eqD; rw [decide_eq_true rfl, eqL_refl]; rfl] at this
                  exact this
                clear hfd
                generalize M[j] = x at *
                obtain ⟨xn, xa, xc, xl⟩ := x
                dsimp only at *
                go_wp2_with fail
                refine (HFi.out _ HGj.out).mono ?_
                rintro e w9 ⟨a', c', rfl, hs9, hg9⟩
                have g10 : Gr w9 (w9.alloc (.cells #[.string xn, .slice a' xl.length c'] 27)) := (Gr.refl w9).alloc
                obtain ⟨b0, b1, _, _, bl⟩ := TwoAt.new w9 (.string xn) (.slice a' xl.length c') 27 _ rfl
                have HG9 : Hid (Gr w (w9.alloc (.cells #[.string xn, .slice a' xl.length c'] 27))) := ((HG8.out.trans HGj.out).trans hg9).trans g10
                have HG89 : Hid (Gr w8 (w9.alloc (.cells #[.string xn, .slice a' xl.length c'] 27))) := (HGj.out.trans hg9).trans g10
                have HS9 := Lib.hid (hs9.gr g10)
                have d0 := HG9.out.keep HD0.out
                have d1 := HG9.out.keep HD1.out
                have hbw := Nat.lt_of_lt_of_le hb HG9.out.size
                clear hs9 hg9 g10
                go_wp2_with fail
                obtain ⟨V, hV⟩ : ∃ V, V = w9.alloc (.cells #[.string xn, .slice a' xl.length c'] 27) := ⟨_, rfl⟩
                rw [← hV] at b0 b1 bl HG9 HG89 HS9 d0 d1 hbw ⊢
                clear hV
                refine wp_region_held_drew (S := (fun w' => Gr V w' ∧ w'.cell? ⟨w9.heap.size, 0, none⟩ = some (.string xn) ∧ w'.cell? ⟨w9.heap.size, 1, none⟩ = some (.slice a' xl.length c') ∧ w'.cell? ⟨b, off + j * 2, none⟩ = some (.string xn) ∧ w'.cell? ⟨b, off + j * 2 + 1, none⟩ = some (.slice xa xl.length xc))) (by kernel_rfl) (by exact hold4 (by (repeat' (first | with_reducible exact Gr.refl _ | with_reducible refine Gr.set ?_ _ ?_ _ | with_reducible refine Gr.alloc ?_ | with_reducible refine Gr.drew ?_ | with_reducible refine Gr.trans ?_ (by assumption))) <;> (first | (simp; done) | (simp; omega) | omega)) b0 b1 d0 d1) (fun hHeld => ?_)
                refine take_yes 0 96 (v := ?_) rfl rfl (by kernel_rfl) (by kernel_rfl) (by kernel_rfl) (fun _ _ _ h => h) (by rfl) ?_ hHeld ?_
                rotate_left
                · (intro w hSw; (try dsimp only at hSw); go_simp; try with_reducible rfl)
                simp only [Act.put, List.setIfInBounds_toArray, List.set_cons_zero, List.set_cons_succ]
                refine take_yes 1 97 (v := ?_) rfl rfl (by kernel_rfl) (by kernel_rfl) (by kernel_rfl) (fun _ _ _ h => h) (by rfl) ?_ hHeld ?_
                rotate_left
                · (intro w hSw; (try dsimp only at hSw); go_simp; try with_reducible rfl)
                simp only [Act.put, List.setIfInBounds_toArray, List.set_cons_zero, List.set_cons_succ]
                refine take_yes 2 98 (v := ?_) rfl rfl (by kernel_rfl) (by kernel_rfl) (by kernel_rfl) (fun _ _ _ h => h) (by rfl) ?_ hHeld ?_
                rotate_left
                · (intro w hSw; (try dsimp only at hSw); go_simp; try with_reducible rfl)
                simp only [Act.put, List.setIfInBounds_toArray, List.set_cons_zero, List.set_cons_succ]
                refine take_yes 3 99 (v := ?_) rfl rfl (by kernel_rfl) (by kernel_rfl) (by kernel_rfl) (fun _ _ _ h => h) (by rfl) ?_ hHeld ?_
                rotate_left
                · (intro w hSw; (try dsimp only at hSw); go_simp; try with_reducible rfl)
                simp only [Act.put, List.setIfInBounds_toArray, List.set_cons_zero, List.set_cons_succ]
                refine take_yes 4 100 (v := ?_) rfl rfl (by kernel_rfl) (by kernel_rfl) (by kernel_rfl) (fun _ _ _ h => h) (by rfl) ?_ hHeld ?_
                rotate_left
                · (intro w hSw; (try dsimp only at hSw); go_simp; try with_reducible rfl)
                simp only [Act.put, List.setIfInBounds_toArray, List.set_cons_zero, List.set_cons_succ]
                refine take_yes 5 101 (v := ?_) rfl rfl (by kernel_rfl) (by kernel_rfl) (by kernel_rfl) (fun _ _ _ h => h) (by rfl) ?_ hHeld ?_
                rotate_left
                · (intro w hSw; (try dsimp only at hSw); go_simp; try with_reducible rfl)
                simp only [Act.put, List.setIfInBounds_toArray, List.set_cons_zero, List.set_cons_succ]
                refine take_yes 6 102 (v := ?_) rfl rfl (by kernel_rfl) (by kernel_rfl) (by kernel_rfl) (fun _ _ _ h => h) (by rfl) ?_ hHeld ?_
                rotate_left
                · (intro w hSw; (try dsimp only at hSw); go_simp; try with_reducible rfl)
                simp only [Act.put, List.setIfInBounds_toArray, List.set_cons_zero, List.set_cons_succ]
                refine take_yes 7 103 (v := ?_) rfl rfl (by kernel_rfl) (by kernel_rfl) (by kernel_rfl) (fun _ _ _ h => h) (by rfl) ?_ hHeld ?_
                rotate_left
                · (intro w hSw; (try dsimp only at hSw); go_simp; try with_reducible rfl)
                simp only [Act.put, List.setIfInBounds_toArray, List.set_cons_zero, List.set_cons_succ]
                refine wpAnyH_ready (rs := [8]) (by kernel_rfl) (by simp) (AllReadyH.cons rfl (fun K hK => ?_) AllReadyH.nil)
                go_simp
                (go_at_call 12; refine (HEl.out a' c' _ (HG9.out.trans (Gr.refl V).drew) (HS9.out.gr (Gr.refl V).drew)).mono ?_; rintro e wn ⟨rfl, hgn⟩)
                (try go_wp2_with fail)
                refine hK.out _ _ (by exact hold4 (by (repeat' (first | with_reducible exact Gr.refl _ | with_reducible refine Gr.set ?_ _ ?_ _ | with_reducible refine Gr.alloc ?_ | with_reducible refine Gr.drew ?_ | with_reducible refine Gr.trans ?_ (by assumption))) <;> (first | (simp; done) | (simp; omega) | omega)) b0 b1 d0 d1) (fun hHeldN => ?_)
                clear hHeld hK K
                have hHeld := hHeldN
                clear hHeldN
                refine take_yes 9 105 (v := ?_) rfl rfl (by kernel_rfl) (by kernel_rfl) (by kernel_rfl) (fun _ _ _ h => h) (by rfl) ?_ hHeld ?_
                rotate_left
                · (intro w hSw; (try dsimp only at hSw); go_simp; try with_reducible rfl)
                simp only [Act.put, List.setIfInBounds_toArray, List.set_cons_zero, List.set_cons_succ]
                refine take_yes 10 106 (v := ?_) rfl rfl (by kernel_rfl) (by kernel_rfl) (by kernel_rfl) (fun _ _ _ h => h) (by rfl) ?_ hHeld ?_
                rotate_left
                · (intro w hSw; (try dsimp only at hSw); go_simp; try with_reducible rfl)
                simp only [Act.put, List.setIfInBounds_toArray, List.set_cons_zero, List.set_cons_succ]
                refine wpAnyH_done (by kernel_rfl) ?_ _
                have HGn : Hid (Gr w8 wn) := HG89.out.trans (by (repeat' (first | with_reducible exact Gr.refl _ | with_reducible refine Gr.set ?_ _ ?_ _ | with_reducible refine Gr.alloc ?_ | with_reducible refine Gr.drew ?_ | with_reducible refine Gr.trans ?_ (by assumption))) <;> (first | (simp; done) | (simp; omega) | omega))
                go_wp2
                go_roundw
                case rel => exact ⟨j + 1, by go_num, by omega, HGn.out⟩
                case measure => simp [intOf]; omega
              · have hge2 : ¬ ((j : Int) < (M.length : Int)) := by omega
                go_wp2_with fail
                refine (HA.out _).mono ?_
                rintro e w10 ⟨rfl, hg10⟩
                have HGF : Hid (Gr w w10) := (HG8.out.trans HGj.out).trans hg10
                clear hg10
                go_wp2
                go_ret
                exact ⟨rfl, HGF.out⟩
      · have hzn : (AdE (dns D) (dns M) == 0) = false := by simpa using hz
        have hR0 : R1 = [] := List.map_eq_nil_iff.1 (hd1.trans (HNil.out hz))
        subst hR0
        clear hd1 hz HZ HNil
        generalize AdE (dns D) (dns M) = z at *
        go_wp2_with fail
        refine (HA.out _).mono ?_
        rintro e w4 ⟨rfl, hg4⟩
        have HG4 : Hid (Gr w w4) := HG3.out.trans hg4
        clear hg4
        go_wp2
        go_ret
        exact ⟨rfl, HG4.out⟩
set_option maxRecDepth 100000 in
theorem bookOrder_lifted (os : Os) (started : os.Started) (H : Type) (enc : TypeId × Value → H) :
    ReturnsInHanded {} Try.checked os 5 .any (Rows.bookOrderSpec.pre6 enc Try.prog Try.f5 Rows.bookOrderRow.domain false) (Rows.bookOrderSpec.post enc Try.prog Try.f5 false true false false) := by
  refine returnsInHanded_of_change (C := Try.checked) own2 started (by kernel_rfl) Try.func5
    (ChangeSpec.witness6 (enc := enc) (C := Try.checked) false ⟨#[], #[.slice none 0 0, .slice none 0 0], []⟩ 8 (by kernel_rfl) (by kernel_rfl) (by kernel_rfl) (by kernel_rfl)) ?_
  intro W base args ds gs before hval0 hW hcnd _
  have hval : ∀ (j : Nat) t v, Try.f5.params[j]? = some t → args[j]? = some v → Value.okWide Try.prog W .any base t v := hval0
  have hW' := hW
  obtain ⟨p, q, hA0, hV, rfl, hfz, hnd⟩ := hW
  have hA : DataW.TrodAll enc Try.prog W 0 (fun _ => true) true Try.f5.params.toList args.toList ds p := hA0
  rw [Try.params5] at hA hval
  obtain ⟨v0, v1, d0, d1, p0, p1, rfl, rfl, rfl, q0, q1⟩ := trodAll_two hA
  obtain ⟨rfl, rfl⟩ := trodVars_none hV
  have k0 := q0
  have lt0 : ∀ x ∈ p0, x.block < W.heap.size := by obtain ⟨m, hm⟩ := k0; exact DataW.trod_lt m _ _ _ hm
  have k1 := q1
  have lt1 : ∀ x ∈ p1, x.block < W.heap.size := by obtain ⟨m, hm⟩ := k1; exact DataW.trod_lt m _ _ _ hm
  obtain ⟨ad0, cap0, D0, rfl, hB0, hn0, hc0, hl0, hm0⟩ := open_defs (hval 0 22 v0 rfl rfl) q0
  obtain ⟨ad1, cap1, D1, rfl, hB1, hn1, hc1, hl1, hm1⟩ := open_defs (hval 1 22 v1 rfl rfl) q1
  clear hA0 hval0
  refine (bookOrder_walk D0 D1 ad0 cap0 ad1 cap1 W hB0 hn0 hB1 hn1).mono fun e W' ⟨he, hg⟩ => ?_
  subst he
  exact ⟨_, rfl, _, _, _, [], _, [], hW', trodAll_mk1 (shut_bool Try.underlying4 _), trodAll_mk2 (Below.trod laidOut2 (by kernel_rfl) (of_decide_eq_true (by kernel_rfl)) k0 hg.below lt0) (Below.trod laidOut2 (by kernel_rfl) (of_decide_eq_true (by kernel_rfl)) k1 hg.below lt1), rfl, hg.below.frame _, fun h => by cases h⟩
theorem bookOrder_holds : Rows.BookOrderSaid :=
  OpenClaim.holds_of_wide 5 Try.f5 rfl rfl rfl rfl rfl rfl rfl ⟨rfl, rfl, rfl, rfl, rfl⟩ rfl rfl rfl rfl rfl (by kernel_rfl) Try.func5 (by kernel_rfl)
    (of_decide_eq_true (by kernel_rfl)) (by unfold Func.isWrapper; first | (rw [if_pos (by decide +kernel)]; kernel_rfl) | (rw [if_neg (by decide +kernel)]; exact ⟨rfl, rfl⟩))
    (fun os started H enc _ => bookOrder_lifted os started H enc)
end Go.Proofs.Ytfobfpigbfepoaa
