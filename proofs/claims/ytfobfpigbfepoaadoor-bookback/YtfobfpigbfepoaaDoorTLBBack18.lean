/- What the proof is made of, part 18. -/
import Derived.Test.YtfobfpigbfepoaaDoorTLBBack17
import Derived.Lib.ItoaNum
namespace Go.Proofs.YtfobfpigbfepoaaDoor
open Go.RowKit
theorem hold4 {a b : World} (g : Gr a b) {q0 q1 q2 q3 : Addr} {v0 v1 v2 v3 : Value} (h0 : a.cell? q0 = some v0) (h1 : a.cell? q1 = some v1) (h2 : a.cell? q2 = some v2) (h3 : a.cell? q3 = some v3) : Gr a b ∧ b.cell? q0 = some v0 ∧ b.cell? q1 = some v1 ∧ b.cell? q2 = some v2 ∧ b.cell? q3 = some v3 := ⟨g, g.keep h0, g.keep h1, g.keep h2, g.keep h3⟩
def eqB (A B : List Bk.Dn) : Bool := decide (A.length = B.length) && (List.range A.length).all (fun j => eqD (A.getD j ⟨⟨#[]⟩, []⟩).nm (A.getD j ⟨⟨#[]⟩, []⟩).L (B.getD j ⟨⟨#[]⟩, []⟩).nm (B.getD j ⟨⟨#[]⟩, []⟩).L)
theorem getD_at (A : List Bk.Dn) (j : Nat) (h : j < A.length) : A.getD j ⟨⟨#[]⟩, []⟩ = A[j] := by rw [List.getD_eq_getElem?_getD, List.getElem?_eq_getElem h]; rfl
theorem eqL_refl (L : List Df.Stp) : eqL L L = true := (eqL_iff L L).2 rfl
theorem eqB_refl (A : List Bk.Dn) : eqB A A = true := by
  unfold eqB
  rw [decide_eq_true rfl, Bool.true_and, List.all_eq_true]
  intro j _
  unfold eqD
  rw [decide_eq_true rfl, eqL_refl]; rfl
theorem eqB_eq {A B : List Bk.Dn} (h : eqB A B = true) : A = B := by
  unfold eqB at h
  rw [Bool.and_eq_true, decide_eq_true_eq, List.all_eq_true] at h
  obtain ⟨h1, h2⟩ := h
  refine List.ext_getElem h1 fun j hj hj' => ?_
  have h3 := h2 j (List.mem_range.2 hj)
  rw [getD_at A j hj, getD_at B j hj'] at h3
  unfold eqD at h3
  rw [Bool.and_eq_true, decide_eq_true_eq] at h3
  exact Bk.dn_ext h3.1 ((eqL_iff _ _).1 h3.2)
set_option maxHeartbeats 4000000 in
set_option maxRecDepth 100000 in
theorem refSame10_any (A B : List Dm) (ad : Option Addr) (cap : Nat) (ad2 : Option Addr) (cap2 : Nat) (w : World) (hA : BkAt w ad A) (hB : BkAt w ad2 B) (hn : A.length ≤ 9223372036854775807) :
    Calls Tryd.prog 8 #[.slice ad A.length cap, .slice ad2 B.length cap2] w fun e w' => e = .returned (.bool (eqB (dns A) (dns B))) ∧ Gr w w' := by
  have HA := Lib.hid hA
  have HB := Lib.hid hB
  clear hA hB
  by_cases hl : A.length = B.length
  · have hli : ((A.length : Int) != (B.length : Int)) = false := by simp [hl]
    have HL : Hid (A.length = B.length) := hl
    clear hl
    go_enter Tryd.func8, Tryd.ntmps8
    go_wp2
    go_loopw [5] (fun s5 wr => ∃ k : Nat, s5 = .int .i64 k ∧ k ≤ A.length ∧ (∀ j, j < k → eqD ((dns A).getD j ⟨⟨#[]⟩, []⟩).nm ((dns A).getD j ⟨⟨#[]⟩, []⟩).L ((dns B).getD j ⟨⟨#[]⟩, []⟩).nm ((dns B).getD j ⟨⟨#[]⟩, []⟩).L = true) ∧ Gr w wr) (fun s5 _ => A.length - (intOf s5).toNat)
    case atStart => exact ⟨0, rfl, Nat.zero_le _, fun j h => absurd h (Nat.not_lt_zero _), Gr.refl _⟩
    case round =>
      obtain ⟨k, rfl, hk, hok, hg⟩ := hrel
      have HG : Hid (Gr w wr) := hg
      have HK := Lib.hid hok
      clear hg hok
      by_cases hlt : k < A.length
      · have hlt2 : k < B.length := by have := HL.out; omega
        obtain ⟨b, off, rfl, hb, d0, d1⟩ := DmsAt.at HA.out.row k hlt
        obtain ⟨b', off', rfl, hb', e0, e1⟩ := DmsAt.at HB.out.row k hlt2
        have d0 := HG.out.keep d0
        have d1 := HG.out.keep d1
        have e0 := HG.out.keep e0
        have e1 := HG.out.keep e1
        have hbw : b < wr.heap.size := Nat.lt_of_lt_of_le hb HG.out.size
        have hbw' : b' < wr.heap.size := Nat.lt_of_lt_of_le hb' HG.out.size
        have hki : (k : Int) < (A.length : Int) := by omega
        have hki2 : (k : Int) < (B.length : Int) := by omega
        have hQ := fun w' (g : Gr w w') => refEqual_any A[k].nm A[k].L A[k].ad A[k].cap B[k].nm B[k].L B[k].ad B[k].cap w' ((HA.out.st _ (List.getElem_mem hlt)).gr g) ((HB.out.st _ (List.getElem_mem hlt2)).gr g) (HA.out.rng _ (List.getElem_mem hlt)).2.1
        have HD : Hid (eqD ((dns A).getD k ⟨⟨#[]⟩, []⟩).nm ((dns A).getD k ⟨⟨#[]⟩, []⟩).L ((dns B).getD k ⟨⟨#[]⟩, []⟩).nm ((dns B).getD k ⟨⟨#[]⟩, []⟩).L = eqD A[k].nm A[k].L B[k].nm B[k].L) := by
          show _ = _
          rw [getD_at _ k (by rw [dns_len]; exact hlt), getD_at _ k (by rw [dns_len]; exact hlt2), dns_get A k hlt, dns_get B k hlt2]; rfl
        generalize A[k] = x at *
        generalize B[k] = y at *
        generalize hq : eqD x.nm x.L y.nm y.L = q at *
        have HQ : Hid (∀ w', Gr w w' → Calls Tryd.prog 19 #[.agg #[.string x.nm, .slice x.ad x.L.length x.cap], .agg #[.string y.nm, .slice y.ad y.L.length y.cap]] w' fun e w2 => e = .returned (.bool q) ∧ Gr w' w2) := hQ
        clear hQ hq
        go_wp2_with fail
        refine wp_region_held_drew (S := (fun w' => Gr wr w' ∧ w'.cell? ⟨b, off + k * 2, none⟩ = some (.string x.nm) ∧ w'.cell? ⟨b, off + k * 2 + 1, none⟩ = some (.slice x.ad x.L.length x.cap) ∧ w'.cell? ⟨b', off' + k * 2, none⟩ = some (.string y.nm) ∧ w'.cell? ⟨b', off' + k * 2 + 1, none⟩ = some (.slice y.ad y.L.length y.cap))) (by kernel_rfl) (by exact hold4 (by (repeat' (first | with_reducible exact Gr.refl _ | with_reducible refine Gr.set ?_ _ ?_ _ | with_reducible refine Gr.alloc ?_ | with_reducible refine Gr.drew ?_ | with_reducible refine Gr.trans ?_ (by assumption))) <;> (first | (simp; done) | (simp; omega) | omega)) d0 d1 e0 e1) (fun hHeld => ?_)
        refine take_yes 0 17 (v := ?_) rfl rfl (by kernel_rfl) (by kernel_rfl) (by kernel_rfl) (fun _ _ _ h => h) (by rfl) ?_ hHeld ?_
        rotate_left
        · (intro w hSw; (try dsimp only at hSw); go_simp; try with_reducible rfl)
        simp only [Act.put, List.setIfInBounds_toArray, List.set_cons_zero, List.set_cons_succ]
        refine take_yes 1 18 (v := ?_) rfl rfl (by kernel_rfl) (by kernel_rfl) (by kernel_rfl) (fun _ _ _ h => h) (by rfl) ?_ hHeld ?_
        rotate_left
        · (intro w hSw; (try dsimp only at hSw); go_simp; try with_reducible rfl)
        simp only [Act.put, List.setIfInBounds_toArray, List.set_cons_zero, List.set_cons_succ]
        refine take_yes 2 19 (v := ?_) rfl rfl (by kernel_rfl) (by kernel_rfl) (by kernel_rfl) (fun _ _ _ h => h) (by rfl) ?_ hHeld ?_
        rotate_left
        · (intro w hSw; (try dsimp only at hSw); go_simp; try with_reducible rfl)
        simp only [Act.put, List.setIfInBounds_toArray, List.set_cons_zero, List.set_cons_succ]
        refine take_yes 3 20 (v := ?_) rfl rfl (by kernel_rfl) (by kernel_rfl) (by kernel_rfl) (fun _ _ _ h => h) (by rfl) ?_ hHeld ?_
        rotate_left
        · (intro w hSw; (try dsimp only at hSw); go_simp; try with_reducible rfl)
        simp only [Act.put, List.setIfInBounds_toArray, List.set_cons_zero, List.set_cons_succ]
        refine take_yes 4 21 (v := ?_) rfl rfl (by kernel_rfl) (by kernel_rfl) (by kernel_rfl) (fun _ _ _ h => h) (by rfl) ?_ hHeld ?_
        rotate_left
        · (intro w hSw; (try dsimp only at hSw); go_simp; try with_reducible rfl)
        simp only [Act.put, List.setIfInBounds_toArray, List.set_cons_zero, List.set_cons_succ]
        refine take_yes 5 22 (v := ?_) rfl rfl (by kernel_rfl) (by kernel_rfl) (by kernel_rfl) (fun _ _ _ h => h) (by rfl) ?_ hHeld ?_
        rotate_left
        · (intro w hSw; (try dsimp only at hSw); go_simp; try with_reducible rfl)
        simp only [Act.put, List.setIfInBounds_toArray, List.set_cons_zero, List.set_cons_succ]
        refine take_yes 6 23 (v := ?_) rfl rfl (by kernel_rfl) (by kernel_rfl) (by kernel_rfl) (fun _ _ _ h => h) (by rfl) ?_ hHeld ?_
        rotate_left
        · (intro w hSw; (try dsimp only at hSw); go_simp; try with_reducible rfl)
        simp only [Act.put, List.setIfInBounds_toArray, List.set_cons_zero, List.set_cons_succ]
        refine take_yes 7 24 (v := ?_) rfl rfl (by kernel_rfl) (by kernel_rfl) (by kernel_rfl) (fun _ _ _ h => h) (by rfl) ?_ hHeld ?_
        rotate_left
        · (intro w hSw; (try dsimp only at hSw); go_simp; try with_reducible rfl)
        simp only [Act.put, List.setIfInBounds_toArray, List.set_cons_zero, List.set_cons_succ]
        refine wpAnyH_ready (rs := [8]) (by kernel_rfl) (by simp) (AllReadyH.cons rfl (fun K hK => ?_) AllReadyH.nil)
        go_simp
        (go_at_call 19; refine (HQ.out _ (HG.out.trans (Gr.refl wr).drew)).mono ?_; rintro e wn ⟨rfl, hgn⟩)
        (try go_wp2_with fail)
        refine hK.out _ _ (by exact hold4 (by (repeat' (first | with_reducible exact Gr.refl _ | with_reducible refine Gr.set ?_ _ ?_ _ | with_reducible refine Gr.alloc ?_ | with_reducible refine Gr.drew ?_ | with_reducible refine Gr.trans ?_ (by assumption))) <;> (first | (simp; done) | (simp; omega) | omega)) d0 d1 e0 e1) (fun hHeldN => ?_)
        clear hHeld hK K
        have hHeld := hHeldN
        clear hHeldN
        refine take_yes 9 26 (v := ?_) rfl rfl (by kernel_rfl) (by kernel_rfl) (by kernel_rfl) (fun _ _ _ h => h) (by rfl) ?_ hHeld ?_
        rotate_left
        · (intro w hSw; (try dsimp only at hSw); go_simp; try with_reducible rfl)
        simp only [Act.put, List.setIfInBounds_toArray, List.set_cons_zero, List.set_cons_succ]
        refine wpAnyH_done (by kernel_rfl) ?_ _
        cases q with
        | false =>
          have HF : Hid (eqB (dns A) (dns B) = false) := by
            show _ = _
            cases e : eqB (dns A) (dns B) with
            | false => rfl
            | true =>
              have h := HD.out
              rw [eqB_eq e] at h
              unfold eqD at h
              rw [decide_eq_true rfl, eqL_refl] at h; cases h
          go_wp2
          go_ret
          exact ⟨by (rw [HF.out]) <;> rfl, HG.out.trans (by (repeat' (first | with_reducible exact Gr.refl _ | with_reducible refine Gr.set ?_ _ ?_ _ | with_reducible refine Gr.alloc ?_ | with_reducible refine Gr.drew ?_ | with_reducible refine Gr.trans ?_ (by assumption))) <;> (first | (simp; done) | (simp; omega) | omega))⟩
        | true =>
          have HK2 : Hid (∀ j, j < k + 1 → eqD ((dns A).getD j ⟨⟨#[]⟩, []⟩).nm ((dns A).getD j ⟨⟨#[]⟩, []⟩).L ((dns B).getD j ⟨⟨#[]⟩, []⟩).nm ((dns B).getD j ⟨⟨#[]⟩, []⟩).L = true) := by
            intro j h
            by_cases e : j = k
            · subst e; exact HD.out
            · exact HK.out j (by omega)
          clear HK HD
          go_wp2
          go_roundw
          case rel => exact ⟨k + 1, by go_num, by omega, HK2.out, HG.out.trans (by (repeat' (first | with_reducible exact Gr.refl _ | with_reducible refine Gr.set ?_ _ ?_ _ | with_reducible refine Gr.alloc ?_ | with_reducible refine Gr.drew ?_ | with_reducible refine Gr.trans ?_ (by assumption))) <;> (first | (simp; done) | (simp; omega) | omega))⟩
          case measure => simp [intOf]; omega
      · have hge : ¬ ((k : Int) < (A.length : Int)) := by omega
        have HF : Hid (eqB (dns A) (dns B) = true) := by
          show _ = _
          unfold eqB
          rw [decide_eq_true (by rw [dns_len, dns_len]; exact HL.out), Bool.true_and, List.all_eq_true]
          intro j hj
          exact HK.out j (by have := List.mem_range.1 hj; rw [dns_len] at this; omega)
        go_wp2
        go_ret
        exact ⟨by (rw [HF.out]) <;> rfl, HG.out⟩
  · have hli : ((A.length : Int) != (B.length : Int)) = true := by rw [bne_iff_ne]; omega
    have HF : Hid (eqB (dns A) (dns B) = false) := by
      show _ = _
      unfold eqB
      rw [decide_eq_false (by rw [dns_len, dns_len]; exact hl)]; rfl
    go_enter Tryd.func8, Tryd.ntmps8
    go_wp2
    go_ret
    exact ⟨by (rw [HF.out]) <;> rfl, (by (repeat' (first | with_reducible exact Gr.refl _ | with_reducible refine Gr.set ?_ _ ?_ _ | with_reducible refine Gr.alloc ?_ | with_reducible refine Gr.drew ?_ | with_reducible refine Gr.trans ?_ (by assumption))) <;> (first | (simp; done) | (simp; omega) | omega))⟩
def fewB (D : List Dm) : Bool := decide (D.length ≤ 100) && D.all (fun d => decide (d.L.length ≤ 100))
theorem few_iff (D : List Dm) : fewB D = true ↔ D.length ≤ 100 ∧ ∀ d ∈ D, d.L.length ≤ 100 := by
  unfold fewB; simp only [Bool.and_eq_true, decide_eq_true_eq, List.all_eq_true]
set_option maxHeartbeats 4000000 in
set_option maxRecDepth 100000 in
theorem few10_any (D : List Dm) (ad : Option Addr) (cap : Nat) (w : World) (hD : DmsAt w ad D) (hn : D.length ≤ 9223372036854775807) (hm : ∀ d ∈ D, d.L.length ≤ 9223372036854775807) :
    Calls Tryd.prog 4 #[.slice ad D.length cap] w fun e w' => e = .returned (.bool (fewB D)) ∧ Gr w w' := by
  have HD := Lib.hid hD
  have HM := Lib.hid hm
  clear hD hm
  by_cases hl : (100 : Int) < (D.length : Int)
  · have HF : Hid (fewB D = false) := by show _ = _; unfold fewB; rw [decide_eq_false (by omega)]; rfl
    have hl2 : 100 < D.length := by omega
    go_enter Tryd.func4, Tryd.ntmps4
    go_wp2
    go_ret
    exact ⟨by (rw [HF.out]) <;> rfl, (by (repeat' (first | with_reducible exact Gr.refl _ | with_reducible refine Gr.set ?_ _ ?_ _ | with_reducible refine Gr.alloc ?_ | with_reducible refine Gr.drew ?_ | with_reducible refine Gr.trans ?_ (by assumption))) <;> (first | (simp; done) | (simp; omega) | omega))⟩
  · have hl2 : ¬ 100 < D.length := by omega
    go_enter Tryd.func4, Tryd.ntmps4
    go_wp2
    go_loopw [3] (fun s3 wr => ∃ k : Nat, s3 = .int .i64 k ∧ k ≤ D.length ∧ (∀ j (h : j < D.length), j < k → D[j].L.length ≤ 100) ∧ Gr w wr) (fun s3 _ => D.length - (intOf s3).toNat)
    case atStart => exact ⟨0, rfl, Nat.zero_le _, fun j _ h => absurd h (Nat.not_lt_zero _), Gr.refl _⟩
    case round =>
      obtain ⟨k, rfl, hk, hok, hg⟩ := hrel
      have HG : Hid (Gr w wr) := hg
      have HK := Lib.hid hok
      clear hg hok
      by_cases hlt : k < D.length
      · obtain ⟨b, off, rfl, hb, d0, d1⟩ := DmsAt.at HD.out k hlt
        have d1 := HG.out.keep d1
        have hbw : b < wr.heap.size := Nat.lt_of_lt_of_le hb HG.out.size
        have hki : (k : Int) < (D.length : Int) := by omega
        have hbig := HM.out _ (List.getElem_mem hlt)
        clear d0
        by_cases hq : (100 : Int) < (D[k].L.length : Int)
        · have HF : Hid (fewB D = false) := by
            show _ = _
            cases e : fewB D with
            | false => rfl
            | true => have := ((few_iff D).1 e).2 _ (List.getElem_mem hlt); omega
          have hq2 : 100 < D[k].L.length := by omega
          generalize D[k] = x at *
          go_wp2
          go_ret
          exact ⟨by (rw [HF.out]) <;> rfl, HG.out⟩
        · have hq2 : ¬ 100 < D[k].L.length := by omega
          have HQ : Hid (∀ j (h : j < D.length), j < k + 1 → D[j].L.length ≤ 100) := by
            intro j h hj
            by_cases e : j = k
            · subst e; omega
            · exact HK.out j h (by omega)
          generalize D[k] = x at *
          go_wp2
          go_roundw
          case rel => exact ⟨k + 1, by go_num, by omega, HQ.out, HG.out⟩
          case measure => simp [intOf]; omega
      · have hge : ¬ ((k : Int) < (D.length : Int)) := by omega
        have HF : Hid (fewB D = true) := by
          refine (few_iff D).2 ⟨by omega, fun d hd => ?_⟩
          obtain ⟨j, hj, rfl⟩ := List.getElem_of_mem hd
          exact HK.out j hj (by omega)
        go_wp2
        go_ret
        exact ⟨by (rw [HF.out]) <;> rfl, HG.out⟩
end Go.Proofs.YtfobfpigbfepoaaDoor
namespace Go.Proofs.YtfobfpigbfepoaaDoor
open Df (Stp St tk isT ownB askB stpB defB chE wk kw sm opt fin one stps prs Gd)
open Lex (Tok S mayB numB sigB vl valE okT endT gap butL scT scF scA ckE)
open _root_.Go.Proofs.YtfobfpigbfepoaaDoor.Act (nameB actB digB letB sgnB)
def dg (n : Int) : ByteArray := ⟨(Lib.decDigits n.toNat).toArray⟩
def stW (s : Stp) : List ByteArray := if askB s = true then [Df.wAsk, dg s.o, s.u, Df.wWait, dg s.v] else [wk s.k, s.a, dg s.n, Df.wTries, dg s.y]
def ln (xs : List ByteArray) : List UInt8 := match xs with
  | [a, b, c, d, e] => 32 :: 32 :: (a.data.toList ++ 32 :: (b.data.toList ++ 32 :: (c.data.toList ++ 32 :: (d.data.toList ++ 32 :: (e.data.toList ++ [59, 10])))))
  | _ => []
def stT (s : Stp) : List UInt8 := ln (stW s)
def shH (nm : ByteArray) : List UInt8 := 115 :: 97 :: 103 :: 97 :: 32 :: (nm.data.toList ++ [32, 123, 10])
def shT (nm : ByteArray) (L : List Stp) : List UInt8 := shH nm ++ (L.flatMap stT ++ [125, 10])
theorem of48 (m : Nat) (h : m < 10) : (UInt8.ofNat (48 + m)).toNat = 48 + m := by simp; omega
theorem digs_len (n : Nat) (k : Nat) (h : n < 10 ^ (k + 1)) : (Lib.decDigits n).length ≤ k + 1 := by
  induction k generalizing n with
  | zero => rw [Lib.decDigits, dif_pos (by simpa using h)]; simp
  | succ k ih =>
    rw [Lib.decDigits]
    split
    · simp
    · have := ih (n / 10) (by rw [Nat.div_lt_iff_lt_mul (by omega)]; rw [Nat.pow_succ] at h; exact h)
      simp; omega
theorem digs_all (n : Nat) : ∀ b ∈ Lib.decDigits n, digB b = true := by
  induction n using Nat.strongRecOn with
  | _ n ih =>
    intro b hb
    have one : ∀ m, m < 10 → digB (UInt8.ofNat (48 + m)) = true := by
      intro m hm
      unfold Act.digB
      rw [of48 m hm]
      simp; omega
    rw [Lib.decDigits] at hb
    split at hb
    · rename_i h
      rw [List.mem_singleton] at hb
      rw [hb]; exact one n h
    · rcases List.mem_append.1 hb with hb | hb
      · exact ih (n / 10) (by omega) b hb
      · rw [List.mem_singleton] at hb
        rw [hb]; exact one (n % 10) (by omega)
theorem digs_pos (n : Nat) : 1 ≤ (Lib.decDigits n).length := by
  rw [Lib.decDigits]
  split <;> simp
theorem digs_head (n : Nat) (h1 : 1 ≤ n) : Lex.zeroB (Lib.decDigits n) = false := by
  induction n using Nat.strongRecOn with
  | _ n ih =>
    rw [Lib.decDigits]
    split
    · rename_i h
      show decide (((UInt8.ofNat (48 + n)).toNat : Int) = 48) = false
      rw [of48 n h]
      simp; omega
    · rename_i h
      have := ih (n / 10) (by omega) (by omega)
      have hp := digs_pos (n / 10)
      cases hc : Lib.decDigits (n / 10) with
      | nil => rw [hc] at hp; simp at hp
      | cons b t => rw [hc] at this; exact this
theorem digs_vl (n : Nat) : vl (Lib.decDigits n) 0 = n := by
  induction n using Nat.strongRecOn with
  | _ n ih =>
    rw [Lib.decDigits]
    split
    · rename_i h
      show vl [] _ = _
      simp only [Lex.vl]
      rw [of48 n h]
      omega
    · rename_i h
      rw [Lex.vl_snoc, ih (n / 10) (by omega), of48 (n % 10) (by omega)]
      omega
theorem dg_list (n : Int) : (dg n).data.toList = Lib.decDigits n.toNat := by simp [dg]
theorem dg_size (n : Int) (k : Nat) (h : n.toNat < 10 ^ (k + 1)) : (dg n).size ≤ k + 1 := by
  have := digs_len n.toNat k h
  have e : (dg n).size = (dg n).data.toList.length := by simp
  rw [e, dg_list]; exact this
theorem dg_num (n : Int) (h : n.toNat < 10 ^ 16) : numB (dg n) = true := by
  have h1 := dg_size n 15 h
  have e : (dg n).size = (dg n).data.toList.length := by simp
  have h2 := digs_pos n.toNat
  unfold Lex.numB
  rw [decide_eq_true (by rw [e, dg_list]; exact h2), decide_eq_true h1, dg_list]
  have h3 : (Lib.decDigits n.toNat).all digB = true := List.all_eq_true.2 (digs_all n.toNat)
  rw [h3]
  by_cases h0 : n.toNat = 0
  · have : (dg n).size = 1 := by rw [e, dg_list, h0, Lib.decDigits, dif_pos (by omega)]; rfl
    rw [decide_eq_true this]; rfl
  · rw [digs_head n.toNat (by omega)]; simp
theorem dg_val (n : Int) (h0 : 0 ≤ n) (h : n.toNat < 10 ^ 16) : valE 2 (dg n) = n := by
  unfold Lex.valE
  rw [if_pos ⟨rfl, dg_num n h⟩, dg_list, digs_vl]
  omega
theorem dg_sm (n : Int) (h0 : 0 ≤ n) (h : n < 100) : sm (dg n) = n := by
  have h9 := dg_size n 8 (by omega)
  unfold Df.sm
  rw [if_neg (by omega), dg_val n h0 (by omega)]
theorem may1 {s : ByteArray} (h : nameB s = true) : mayB 1 s = true := by unfold Lex.mayB; rw [if_pos rfl]; exact h
theorem may2 {s : ByteArray} (h : numB s = true) : mayB 2 s = true := by unfold Lex.mayB; rw [if_neg (by decide), if_pos rfl]; exact h
theorem wk_name (k : Int) (h1 : 1 ≤ k) (h2 : k ≤ 4) : nameB (wk k) = true ∧ wk k ≠ Df.wAsk ∧ kw (wk k) = k ∧ (wk k).size ≤ 7 := by
  rcases (by omega : k = 1 ∨ k = 2 ∨ k = 3 ∨ k = 4) with rfl | rfl | rfl | rfl <;> exact ⟨by decide, by decide, by decide, by decide⟩
def sTk (s : Stp) : List Tok := if askB s = true then [⟨1, Df.wAsk, 0⟩, ⟨2, dg s.o, 0⟩, ⟨1, s.u, 0⟩, ⟨1, Df.wWait, 0⟩, ⟨2, dg s.v, 0⟩, ⟨3, Df.gSemi, 0⟩] else [⟨1, wk s.k, 0⟩, ⟨1, s.a, 0⟩, ⟨2, dg s.n, 0⟩, ⟨1, Df.wTries, 0⟩, ⟨2, dg s.y, 0⟩, ⟨3, Df.gSemi, 0⟩]
theorem own_of {s : Stp} (h : stpB s = true) (hk : askB s = false) : ownB s = true := by unfold Df.stpB at h; rw [hk] at h; simpa using h
structure W5 (a b c d e : ByteArray) (k1 k2 k4 : Int) : Prop where
  a : mayB 1 a = true
  b : mayB k1 b = true
  c : mayB k2 c = true
  d : mayB 1 d = true
  e : mayB k4 e = true
theorem cut_one (k : Int) (x : ByteArray) (r : List UInt8) (a : Nat) (h : mayB k x = true) (hr : gap r = true) : S (x.data.toList ++ r) a = (⟨k, x, a⟩ :: (S r (a + x.size)).1, (S r (a + x.size)).2) := by
  obtain ⟨b, u, h1, h2, h3, h4, h5, h6, h7⟩ := Lex.may_cut k x r h hr
  have hd : (b :: u).drop (Lex.tl (b :: u)) = r := by
    rw [h4, ← h1]
    have hl : x.data.toList.length = x.size := by simp
    rw [← hl, List.drop_left]
  rw [h1, Lex.S_tok u a h2 h3 (by rw [h5, h6]; exact h7), hd, h5, h6, h4]
theorem gap32 (r : List UInt8) : gap (32 :: r) = true := by simp [Lex.gap]; decide
theorem gap10 (r : List UInt8) : gap (10 :: r) = true := by simp [Lex.gap]; decide
theorem gap59 (r : List UInt8) : gap (59 :: r) = true := by simp [Lex.gap]; decide
theorem cut_line {a b c d e : ByteArray} {k1 k2 k4 : Int} (h : W5 a b c d e k1 k2 k4) (r : List UInt8) (p : Nat) : ∃ (T : List Tok) (p' : Nat), butL T [⟨1, a, 0⟩, ⟨k1, b, 0⟩, ⟨k2, c, 0⟩, ⟨1, d, 0⟩, ⟨k4, e, 0⟩, ⟨3, Df.gSemi, 0⟩] ∧ S (ln [a, b, c, d, e] ++ r) p = (T ++ (S r p').1, (S r p').2) := by
  have e1 : ln [a, b, c, d, e] ++ r = 32 :: 32 :: (a.data.toList ++ 32 :: (b.data.toList ++ 32 :: (c.data.toList ++ 32 :: (d.data.toList ++ 32 :: (e.data.toList ++ (59 :: (10 :: r))))))) := by simp [ln]
  rw [e1, Lex.S_blank _ _ (by decide), Lex.S_blank _ _ (by decide), cut_one 1 a _ _ h.a (gap32 _), Lex.S_blank _ _ (by decide), cut_one k1 b _ _ h.b (gap32 _), Lex.S_blank _ _ (by decide), cut_one k2 c _ _ h.c (gap32 _), Lex.S_blank _ _ (by decide), cut_one 1 d _ _ h.d (gap32 _), Lex.S_blank _ _ (by decide), cut_one k4 e _ _ h.e (gap59 _)]
  have e2 : ∀ q, S (59 :: (10 :: r)) q = (⟨3, Df.gSemi, q⟩ :: (S r (q + 1 + 1)).1, (S r (q + 1 + 1)).2) := by
    intro q
    have := cut_one 3 Df.gSemi (10 :: r) q (by decide) (gap10 _)
    rw [show Df.gSemi.data.toList ++ (10 :: r) = 59 :: (10 :: r) from rfl] at this
    rw [this, Lex.S_blank _ _ (by decide)]; rfl
  rw [e2]
  dsimp only
  refine ⟨[_, _, _, _, _, _], _, ?_, rfl⟩
  exact ⟨⟨rfl, rfl⟩, ⟨rfl, rfl⟩, ⟨rfl, rfl⟩, ⟨rfl, rfl⟩, ⟨rfl, rfl⟩, ⟨rfl, rfl⟩, trivial⟩
theorem cut_step {s : Stp} (h : stpB s = true) (r : List UInt8) (p : Nat) : ∃ (T : List Tok) (p' : Nat), butL T (sTk s) ∧ S (stT s ++ r) p = (T ++ (S r p').1, (S r p').2) := by
  unfold sTk stT stW
  cases hk : askB s with
  | true =>
    obtain ⟨n1, _, _, _, _, o1, o2, v1, v2⟩ := (Df.ask_iff s).1 hk
    simp only [if_true]
    exact cut_line ⟨by decide, may2 (dg_num _ (by omega)), may1 n1, by decide, may2 (dg_num _ (by omega))⟩ r p
  | false =>
    obtain ⟨_, ab, _, _, y1, y2⟩ := (Df.own_iff s).1 (own_of h hk)
    obtain ⟨⟨k1, k2⟩, nb, n1, n2⟩ := (Act.act_iff s.k s.a s.n).1 ab
    simp only [Bool.false_eq_true, if_false]
    exact cut_line ⟨may1 (wk_name s.k k1 k2).1, may1 nb, may2 (dg_num _ (by omega)), by decide, may2 (dg_num _ (by omega))⟩ r p
theorem butL_app : ∀ (A B C D : List Tok), butL A B → butL C D → butL (A ++ C) (B ++ D) := by
  intro A
  induction A with
  | nil => intro B C D h1 h2; cases B with
    | nil => exact h2
    | cons y u => exact h1.elim
  | cons x t ih => intro B C D h1 h2; cases B with
    | nil => exact h1.elim
    | cons y u => exact ⟨h1.1, ih u C D h1.2 h2⟩
theorem cut_steps : ∀ (L : List Stp) (r : List UInt8) (p : Nat), (∀ s ∈ L, stpB s = true) → ∃ (T : List Tok) (p' : Nat), butL T (L.flatMap sTk) ∧ S (L.flatMap stT ++ r) p = (T ++ (S r p').1, (S r p').2) := by
  intro L
  induction L with
  | nil => intro r p _; exact ⟨[], p, trivial, rfl⟩
  | cons s t ih =>
    intro r p h
    rw [List.flatMap_cons, List.flatMap_cons, List.append_assoc]
    obtain ⟨T1, p1, h1, e1⟩ := cut_step (h s (by simp)) (t.flatMap stT ++ r) p
    obtain ⟨T2, p2, h2, e2⟩ := ih r p1 (fun x hx => h x (by simp [hx]))
    refine ⟨T1 ++ T2, p2, butL_app _ _ _ _ h1 h2, ?_⟩
    rw [e1, e2, List.append_assoc]
end Go.Proofs.YtfobfpigbfepoaaDoor
namespace Go.Proofs.YtfobfpigbfepoaaDoor
open Df (Stp St tk isT ownB askB stpB defB chE wk kw sm opt fin one stps prs Gd pE pA pT pN pL)
open Lex (Tok S mayB numB sigB vl valE okT endT gap butL scT scF scA ckE)
open _root_.Go.Proofs.YtfobfpigbfepoaaDoor.Act (nameB actB digB letB sgnB)
theorem tk_but {T U : List Tok} (h : butL T U) (i : Nat) : (tk T i).k = (tk U i).k ∧ (tk T i).t = (tk U i).t := by
  have hl := Lex.butL_len T U h
  by_cases hi : i < T.length
  · rw [Df.tk_get T i hi, Df.tk_get U i (by omega)]
    exact Lex.butL_get T U h i hi (by omega)
  · rw [Df.tk_out T i (by omega), Df.tk_out U i (by omega)]
    exact ⟨rfl, rfl⟩
theorem isT_but {T U : List Tok} (h : butL T U) (i : Nat) (k : Int) (s : ByteArray) : isT (tk T i) k s = isT (tk U i) k s := by
  unfold Df.isT; rw [(tk_but h i).1, (tk_but h i).2]
theorem opt_but {T U : List Tok} (h : butL T U) (i : Nat) (wd : ByteArray) (n : Int) : opt T i wd n = opt U i wd n := by
  unfold Df.opt; rw [isT_but h, (tk_but h (i + 1)).1, (tk_but h (i + 1)).2]
theorem fin_but {T U : List Tok} (h : butL T U) (x : Nat × Option Int) (f : Int → Stp) : fin T x f = fin U x f := by
  unfold Df.fin; rw [isT_but h]
theorem one_but {T U : List Tok} (h : butL T U) (i : Nat) : one T i = one U i := by
  unfold Df.one
  rw [isT_but h, (tk_but h i).1, (tk_but h i).2, (tk_but h (i + 1)).1, (tk_but h (i + 1)).2, (tk_but h (i + 2)).1, (tk_but h (i + 2)).2, opt_but h, opt_but h, fin_but h, fin_but h]
theorem stps_but {T U : List Tok} (h : butL T U) : ∀ (f i : Nat) (L : List Stp), stps T f i L = stps U f i L := by
  intro f
  induction f with
  | zero => intro i L; rfl
  | succ f ih =>
    intro i L
    unfold Df.stps
    rw [isT_but h, one_but h]
    split
    · rfl
    · rcases one U i with ⟨j, o⟩
      cases o with
      | none => rfl
      | some s => exact ih j (L ++ [s])
theorem prs_but {T U : List Tok} (h : butL T U) (i : Nat) : prs T i = prs U i := by
  unfold Df.prs
  rw [isT_but h, isT_but h, (tk_but h (i + 1)).1, (tk_but h (i + 1)).2, stps_but h, Lex.butL_len T U h]
theorem tk_drop (T : List Tok) (i j : Nat) : tk T (i + j) = tk (T.drop i) j := by
  unfold Df.tk
  rw [List.getD_eq_getElem?_getD, List.getD_eq_getElem?_getD, List.getElem?_drop]
theorem one_at {T : List Tok} {i : Nat} {s : Stp} {R : List Tok} (h : stpB s = true) (hd : T.drop i = sTk s ++ R) : one T i = (i + 6, some s) := by
  have g0 : tk T i = tk (sTk s ++ R) 0 := by have := tk_drop T i 0; rw [hd] at this; exact this
  have g : ∀ j, tk T (i + j) = tk (sTk s ++ R) j := fun j => by rw [tk_drop, hd]
  have g1 := g 1
  have g2 := g 2
  have g3 := g 3
  have g4 : tk T (i + 3 + 1) = tk (sTk s ++ R) 4 := g 4
  have g5 : tk T (i + 3 + 2) = tk (sTk s ++ R) 5 := g 5
  unfold sTk at g0 g1 g2 g3 g4 g5
  cases hk : askB s with
  | true =>
    obtain ⟨n1, q1, q2, q3, q4, o1, o2, v1, v2⟩ := (Df.ask_iff s).1 hk
    rw [hk, if_pos rfl] at g0 g1 g2 g3 g4 g5
    have t0 : tk T i = ⟨1, Df.wAsk, 0⟩ := g0
    have t1 : tk T (i + 1) = ⟨2, dg s.o, 0⟩ := g1
    have t2 : tk T (i + 2) = ⟨1, s.u, 0⟩ := g2
    have t3 : tk T (i + 3) = ⟨1, Df.wWait, 0⟩ := g3
    have t4 : tk T (i + 3 + 1) = ⟨2, dg s.v, 0⟩ := g4
    have t5 : tk T (i + 3 + 2) = ⟨3, Df.gSemi, 0⟩ := g5
    have ho : opt T (i + 3) Df.wWait 20 = (i + 3 + 2, some s.v) := by
      unfold Df.opt
      rw [t3, if_pos (by decide), t4, if_pos rfl, dg_sm s.v (by omega) (by omega)]
    unfold Df.one
    rw [t0, if_pos (by decide), t1, if_pos rfl, t2, if_pos rfl, ho]
    unfold Df.fin
    simp only
    rw [t5, if_pos (by decide), dg_sm s.o o1 (by omega)]
    obtain ⟨k, a, n, o, u, y, v⟩ := s
    simp only at q1 q2 q3 q4
    subst q1 q2 q3 q4
    rfl
  | false =>
    obtain ⟨p1, ab, p3, p4, y1, y2⟩ := (Df.own_iff s).1 (own_of h hk)
    obtain ⟨⟨k1, k2⟩, nb, n1, n2⟩ := (Act.act_iff s.k s.a s.n).1 ab
    obtain ⟨w1, w2, w3, _⟩ := wk_name s.k k1 k2
    rw [hk, if_neg (by decide)] at g0 g1 g2 g3 g4 g5
    have t0 : tk T i = ⟨1, wk s.k, 0⟩ := g0
    have t1 : tk T (i + 1) = ⟨1, s.a, 0⟩ := g1
    have t2 : tk T (i + 2) = ⟨2, dg s.n, 0⟩ := g2
    have t3 : tk T (i + 3) = ⟨1, Df.wTries, 0⟩ := g3
    have t4 : tk T (i + 3 + 1) = ⟨2, dg s.y, 0⟩ := g4
    have t5 : tk T (i + 3 + 2) = ⟨3, Df.gSemi, 0⟩ := g5
    have ho : opt T (i + 3) Df.wTries 1 = (i + 3 + 2, some s.y) := by
      unfold Df.opt
      rw [t3, if_pos (by decide), t4, if_pos rfl, dg_sm s.y (by omega) (by omega)]
    have hna : ¬ isT ⟨1, wk s.k, 0⟩ 1 Df.wAsk = true := fun e => w2 ((Df.isT_iff _ _ _).1 e).2
    unfold Df.one
    rw [t0, if_neg hna, t1, if_pos ⟨rfl, by rw [w3]; omega⟩, if_pos rfl, t2, if_pos rfl, ho]
    unfold Df.fin
    simp only
    rw [t5, if_pos (by decide), w3, dg_val s.n (by omega) (by omega)]
    obtain ⟨k, a, n, o, u, y, v⟩ := s
    simp only at p1 p3 p4
    subst p1 p3 p4
    rfl
theorem sTk_len (s : Stp) : (sTk s).length = 6 := by unfold sTk; split <;> rfl
theorem sTk_shut (s : Stp) (R : List Tok) : isT (tk (sTk s ++ R) 0) 3 Df.gShut = false := by
  unfold sTk
  split <;> rfl
theorem ln_len (a b c d e : ByteArray) : (ln [a, b, c, d, e]).length = a.size + b.size + c.size + d.size + e.size + 8 := by
  simp [ln]; omega
theorem name_le {s : ByteArray} (h : nameB s = true) : s.size ≤ 16 := (Act.name_pos h).2
theorem stT_len {s : Stp} (h : stpB s = true) : (stT s).length ≤ 60 := by
  unfold stT stW
  cases hk : askB s with
  | true =>
    obtain ⟨n1, _, _, _, _, o1, o2, v1, v2⟩ := (Df.ask_iff s).1 hk
    simp only [if_true]
    rw [ln_len]
    have := dg_size s.o 1 (by omega)
    have := dg_size s.v 1 (by omega)
    have := name_le n1
    have : Df.wAsk.size = 3 := by decide
    have : Df.wWait.size = 4 := by decide
    omega
  | false =>
    obtain ⟨_, ab, _, _, y1, y2⟩ := (Df.own_iff s).1 (own_of h hk)
    obtain ⟨⟨k1, k2⟩, nb, n1, n2⟩ := (Act.act_iff s.k s.a s.n).1 ab
    simp only [Bool.false_eq_true, if_false]
    rw [ln_len]
    have := dg_size s.n 15 (by omega)
    have := dg_size s.y 1 (by omega)
    have := name_le nb
    have := (wk_name s.k k1 k2).2.2.2
    have : Df.wTries.size = 5 := by decide
    omega
theorem stTs_len : ∀ (L : List Stp), (∀ s ∈ L, stpB s = true) → (L.flatMap stT).length ≤ 60 * L.length := by
  intro L
  induction L with
  | nil => intro _; simp
  | cons s t ih =>
    intro h
    have h1 := stT_len (h s (by simp))
    have h2 := ih (fun x hx => h x (by simp [hx]))
    rw [List.flatMap_cons, List.length_append, List.length_cons]; omega
theorem shT_len {nm : ByteArray} {L : List Stp} (h : defB nm L = true) : (shT nm L).length ≤ 600 := by
  obtain ⟨h1, h2, h3, h4⟩ := (Df.def_iff nm L).1 h
  have := stTs_len L h4
  have := name_le h1
  have hz : nm.data.toList.length = nm.size := by simp
  unfold shT shH
  simp only [List.length_append, List.length_cons, List.length_nil, hz]
  omega
end Go.Proofs.YtfobfpigbfepoaaDoor
