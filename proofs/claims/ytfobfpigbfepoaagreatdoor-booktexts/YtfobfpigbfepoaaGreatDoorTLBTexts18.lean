/- What the proof is made of, part 18. -/
import Derived.Test.YtfobfpigbfepoaaGreatDoorTLBTexts17
import Derived.Lib.ItoaNum
import Derived.Lib.JoinLaws
import Derived.Deep.DeepCutAuto
namespace Go.Proofs.YtfobfpigbfepoaaGreatDoor
open Go.RowKit
theorem hold4 {a b : World} (g : Gr a b) {q0 q1 q2 q3 : Addr} {v0 v1 v2 v3 : Value} (h0 : a.cell? q0 = some v0) (h1 : a.cell? q1 = some v1) (h2 : a.cell? q2 = some v2) (h3 : a.cell? q3 = some v3) : Gr a b ∧ b.cell? q0 = some v0 ∧ b.cell? q1 = some v1 ∧ b.cell? q2 = some v2 ∧ b.cell? q3 = some v3 := ⟨g, g.keep h0, g.keep h1, g.keep h2, g.keep h3⟩
def eqB (A B : List Bk.Dn) : Bool := decide (A.length = B.length) && (List.range A.length).all (fun j => eqD (A.getD j ⟨⟨#[]⟩, []⟩).nm (A.getD j ⟨⟨#[]⟩, []⟩).L (B.getD j ⟨⟨#[]⟩, []⟩).nm (B.getD j ⟨⟨#[]⟩, []⟩).L)
theorem getD_at (A : List Bk.Dn) (j : Nat) (h : j < A.length) : A.getD j ⟨⟨#[]⟩, []⟩ = A[j] := by rw [List.getD_eq_getElem?_getD, List.getElem?_eq_getElem h]; rfl
theorem eqL_refl (L : List Df.Stp) : eqL L L = true := (eqL_iff L L).2 rfl
theorem eqB_refl (A : List Bk.Dn) : eqB A A = true := by
  unfold eqB
  rw [decide_eq_true rfl, Bool.true_and, List.all_eq_true]
  intro j _
  unfold eqD
  rw [decide_eq_true rfl, eqL_refl]; rfl
theorem eqB_eq {A B : List Bk.Dn} (h : eqB A B = true) : A = B := by
  unfold eqB at h
  rw [Bool.and_eq_true, decide_eq_true_eq, List.all_eq_true] at h
  obtain ⟨h1, h2⟩ := h
  refine List.ext_getElem h1 fun j hj hj' => ?_
  have h3 := h2 j (List.mem_range.2 hj)
  rw [getD_at A j hj, getD_at B j hj'] at h3
  unfold eqD at h3
  rw [Bool.and_eq_true, decide_eq_true_eq] at h3
  exact Bk.dn_ext h3.1 ((eqL_iff _ _).1 h3.2)
set_option maxHeartbeats 4000000 in
set_option maxRecDepth 100000 in
theorem refSame10_any (A B : List Dm) (ad : Option Addr) (cap : Nat) (ad2 : Option Addr) (cap2 : Nat) (w : World) (hA : BkAt w ad A) (hB : BkAt w ad2 B) (hn : A.length ≤ 9223372036854775807) :
    Calls Tryz.prog 10 #[.slice ad A.length cap, .slice ad2 B.length cap2] w fun e w' => e = .returned (.bool (eqB (dns A) (dns B))) ∧ Gr w w' := by
  have HA := Lib.hid hA
  have HB := Lib.hid hB
  clear hA hB
  by_cases hl : A.length = B.length
  · have hli : ((A.length : Int) != (B.length : Int)) = false := by simp [hl]
    have HL : Hid (A.length = B.length) := hl
    clear hl
    go_enter Tryz.func10, Tryz.ntmps10
    go_wp2
    go_loopw [5] (fun s5 wr => ∃ k : Nat, s5 = .int .i64 k ∧ k ≤ A.length ∧ (∀ j, j < k → eqD ((dns A).getD j ⟨⟨#[]⟩, []⟩).nm ((dns A).getD j ⟨⟨#[]⟩, []⟩).L ((dns B).getD j ⟨⟨#[]⟩, []⟩).nm ((dns B).getD j ⟨⟨#[]⟩, []⟩).L = true) ∧ Gr w wr) (fun s5 _ => A.length - (intOf s5).toNat)
    case atStart => exact ⟨0, rfl, Nat.zero_le _, fun j h => absurd h (Nat.not_lt_zero _), Gr.refl _⟩
    case round =>
      obtain ⟨k, rfl, hk, hok, hg⟩ := hrel
      have HG : Hid (Gr w wr) := hg
      have HK := Lib.hid hok
      clear hg hok
      by_cases hlt : k < A.length
      · have hlt2 : k < B.length := by have := HL.out; omega
        obtain ⟨b, off, rfl, hb, d0, d1⟩ := DmsAt.at HA.out.row k hlt
        obtain ⟨b', off', rfl, hb', e0, e1⟩ := DmsAt.at HB.out.row k hlt2
        have d0 := HG.out.keep d0
        have d1 := HG.out.keep d1
        have e0 := HG.out.keep e0
        have e1 := HG.out.keep e1
        have hbw : b < wr.heap.size := Nat.lt_of_lt_of_le hb HG.out.size
        have hbw' : b' < wr.heap.size := Nat.lt_of_lt_of_le hb' HG.out.size
        have hki : (k : Int) < (A.length : Int) := by omega
        have hki2 : (k : Int) < (B.length : Int) := by omega
        have hQ := fun w' (g : Gr w w') => refEqual_any A[k].nm A[k].L A[k].ad A[k].cap B[k].nm B[k].L B[k].ad B[k].cap w' ((HA.out.st _ (List.getElem_mem hlt)).gr g) ((HB.out.st _ (List.getElem_mem hlt2)).gr g) (HA.out.rng _ (List.getElem_mem hlt)).2.1
        have HD : Hid (eqD ((dns A).getD k ⟨⟨#[]⟩, []⟩).nm ((dns A).getD k ⟨⟨#[]⟩, []⟩).L ((dns B).getD k ⟨⟨#[]⟩, []⟩).nm ((dns B).getD k ⟨⟨#[]⟩, []⟩).L = eqD A[k].nm A[k].L B[k].nm B[k].L) := by
          show _ = _
          rw [getD_at _ k (by rw [dns_len]; exact hlt), getD_at _ k (by rw [dns_len]; exact hlt2), dns_get A k hlt, dns_get B k hlt2]; rfl
        generalize A[k] = x at *
        generalize B[k] = y at *
        generalize hq : eqD x.nm x.L y.nm y.L = q at *
        have HQ : Hid (∀ w', Gr w w' → Calls Tryz.prog 26 #[.agg #[.string x.nm, .slice x.ad x.L.length x.cap], .agg #[.string y.nm, .slice y.ad y.L.length y.cap]] w' fun e w2 => e = .returned (.bool q) ∧ Gr w' w2) := hQ
        clear hQ hq
        go_wp2_with fail
        refine wp_region_held_drew (S := (fun w' => Gr wr w' ∧ w'.cell? ⟨b, off + k * 2, none⟩ = some (.string x.nm) ∧ w'.cell? ⟨b, off + k * 2 + 1, none⟩ = some (.slice x.ad x.L.length x.cap) ∧ w'.cell? ⟨b', off' + k * 2, none⟩ = some (.string y.nm) ∧ w'.cell? ⟨b', off' + k * 2 + 1, none⟩ = some (.slice y.ad y.L.length y.cap))) (by kernel_rfl) (by exact hold4 (by (repeat' (first | with_reducible exact Gr.refl _ | with_reducible refine Gr.set ?_ _ ?_ _ | with_reducible refine Gr.alloc ?_ | with_reducible refine Gr.drew ?_ | with_reducible refine Gr.trans ?_ (by assumption))) <;> (first | (simp; done) | (simp; omega) | omega)) d0 d1 e0 e1) (fun hHeld => ?_)
        refine take_yes 0 17 (v := ?_) rfl rfl (by kernel_rfl) (by kernel_rfl) (by kernel_rfl) (fun _ _ _ h => h) (by rfl) ?_ hHeld ?_
        rotate_left
        · (intro w hSw; (try dsimp only at hSw); go_simp; try with_reducible rfl)
        simp only [Act.put, List.setIfInBounds_toArray, List.set_cons_zero, List.set_cons_succ]
        refine take_yes 1 18 (v := ?_) rfl rfl (by kernel_rfl) (by kernel_rfl) (by kernel_rfl) (fun _ _ _ h => h) (by rfl) ?_ hHeld ?_
        rotate_left
        · (intro w hSw; (try dsimp only at hSw); go_simp; try with_reducible rfl)
        simp only [Act.put, List.setIfInBounds_toArray, List.set_cons_zero, List.set_cons_succ]
        refine take_yes 2 19 (v := ?_) rfl rfl (by kernel_rfl) (by kernel_rfl) (by kernel_rfl) (fun _ _ _ h => h) (by rfl) ?_ hHeld ?_
        rotate_left
        · (intro w hSw; (try dsimp only at hSw); go_simp; try with_reducible rfl)
        simp only [Act.put, List.setIfInBounds_toArray, List.set_cons_zero, List.set_cons_succ]
        refine take_yes 3 20 (v := ?_) rfl rfl (by kernel_rfl) (by kernel_rfl) (by kernel_rfl) (fun _ _ _ h => h) (by rfl) ?_ hHeld ?_
        rotate_left
        · (intro w hSw; (try dsimp only at hSw); go_simp; try with_reducible rfl)
        simp only [Act.put, List.setIfInBounds_toArray, List.set_cons_zero, List.set_cons_succ]
        refine take_yes 4 21 (v := ?_) rfl rfl (by kernel_rfl) (by kernel_rfl) (by kernel_rfl) (fun _ _ _ h => h) (by rfl) ?_ hHeld ?_
        rotate_left
        · (intro w hSw; (try dsimp only at hSw); go_simp; try with_reducible rfl)
        simp only [Act.put, List.setIfInBounds_toArray, List.set_cons_zero, List.set_cons_succ]
        refine take_yes 5 22 (v := ?_) rfl rfl (by kernel_rfl) (by kernel_rfl) (by kernel_rfl) (fun _ _ _ h => h) (by rfl) ?_ hHeld ?_
        rotate_left
        · (intro w hSw; (try dsimp only at hSw); go_simp; try with_reducible rfl)
        simp only [Act.put, List.setIfInBounds_toArray, List.set_cons_zero, List.set_cons_succ]
        refine take_yes 6 23 (v := ?_) rfl rfl (by kernel_rfl) (by kernel_rfl) (by kernel_rfl) (fun _ _ _ h => h) (by rfl) ?_ hHeld ?_
        rotate_left
        · (intro w hSw; (try dsimp only at hSw); go_simp; try with_reducible rfl)
        simp only [Act.put, List.setIfInBounds_toArray, List.set_cons_zero, List.set_cons_succ]
        refine take_yes 7 24 (v := ?_) rfl rfl (by kernel_rfl) (by kernel_rfl) (by kernel_rfl) (fun _ _ _ h => h) (by rfl) ?_ hHeld ?_
        rotate_left
        · (intro w hSw; (try dsimp only at hSw); go_simp; try with_reducible rfl)
        simp only [Act.put, List.setIfInBounds_toArray, List.set_cons_zero, List.set_cons_succ]
        refine wpAnyH_ready (rs := [8]) (by kernel_rfl) (by simp) (AllReadyH.cons rfl (fun K hK => ?_) AllReadyH.nil)
        go_simp
        (go_at_call 26; refine (HQ.out _ (HG.out.trans (Gr.refl wr).drew)).mono ?_; rintro e wn ⟨rfl, hgn⟩)
        (try go_wp2_with fail)
        refine hK.out _ _ (by exact hold4 (by (repeat' (first | with_reducible exact Gr.refl _ | with_reducible refine Gr.set ?_ _ ?_ _ | with_reducible refine Gr.alloc ?_ | with_reducible refine Gr.drew ?_ | with_reducible refine Gr.trans ?_ (by assumption))) <;> (first | (simp; done) | (simp; omega) | omega)) d0 d1 e0 e1) (fun hHeldN => ?_)
        clear hHeld hK K
        have hHeld := hHeldN
        clear hHeldN
        refine take_yes 9 26 (v := ?_) rfl rfl (by kernel_rfl) (by kernel_rfl) (by kernel_rfl) (fun _ _ _ h => h) (by rfl) ?_ hHeld ?_
        rotate_left
        · (intro w hSw; (try dsimp only at hSw); go_simp; try with_reducible rfl)
        simp only [Act.put, List.setIfInBounds_toArray, List.set_cons_zero, List.set_cons_succ]
        refine wpAnyH_done (by kernel_rfl) ?_ _
        cases q with
        | false =>
          have HF : Hid (eqB (dns A) (dns B) = false) := by
            show _ = _
            cases e : eqB (dns A) (dns B) with
            | false => rfl
            | true =>
              have h := HD.out
              rw [eqB_eq e] at h
              unfold eqD at h
              rw [decide_eq_true rfl, eqL_refl] at h; cases h
          go_wp2
          go_ret
          exact ⟨by (rw [HF.out]) <;> rfl, HG.out.trans (by (repeat' (first | with_reducible exact Gr.refl _ | with_reducible refine Gr.set ?_ _ ?_ _ | with_reducible refine Gr.alloc ?_ | with_reducible refine Gr.drew ?_ | with_reducible refine Gr.trans ?_ (by assumption))) <;> (first | (simp; done) | (simp; omega) | omega))⟩
        | true =>
          have HK2 : Hid (∀ j, j < k + 1 → eqD ((dns A).getD j ⟨⟨#[]⟩, []⟩).nm ((dns A).getD j ⟨⟨#[]⟩, []⟩).L ((dns B).getD j ⟨⟨#[]⟩, []⟩).nm ((dns B).getD j ⟨⟨#[]⟩, []⟩).L = true) := by
            intro j h
            by_cases e : j = k
            · subst e; exact HD.out
            · exact HK.out j (by omega)
          clear HK HD
          go_wp2
          go_roundw
          case rel => exact ⟨k + 1, by go_num, by omega, HK2.out, HG.out.trans (by (repeat' (first | with_reducible exact Gr.refl _ | with_reducible refine Gr.set ?_ _ ?_ _ | with_reducible refine Gr.alloc ?_ | with_reducible refine Gr.drew ?_ | with_reducible refine Gr.trans ?_ (by assumption))) <;> (first | (simp; done) | (simp; omega) | omega))⟩
          case measure => simp [intOf]; omega
      · have hge : ¬ ((k : Int) < (A.length : Int)) := by omega
        have HF : Hid (eqB (dns A) (dns B) = true) := by
          show _ = _
          unfold eqB
          rw [decide_eq_true (by rw [dns_len, dns_len]; exact HL.out), Bool.true_and, List.all_eq_true]
          intro j hj
          exact HK.out j (by have := List.mem_range.1 hj; rw [dns_len] at this; omega)
        go_wp2
        go_ret
        exact ⟨by (rw [HF.out]) <;> rfl, HG.out⟩
  · have hli : ((A.length : Int) != (B.length : Int)) = true := by rw [bne_iff_ne]; omega
    have HF : Hid (eqB (dns A) (dns B) = false) := by
      show _ = _
      unfold eqB
      rw [decide_eq_false (by rw [dns_len, dns_len]; exact hl)]; rfl
    go_enter Tryz.func10, Tryz.ntmps10
    go_wp2
    go_ret
    exact ⟨by (rw [HF.out]) <;> rfl, (by (repeat' (first | with_reducible exact Gr.refl _ | with_reducible refine Gr.set ?_ _ ?_ _ | with_reducible refine Gr.alloc ?_ | with_reducible refine Gr.drew ?_ | with_reducible refine Gr.trans ?_ (by assumption))) <;> (first | (simp; done) | (simp; omega) | omega))⟩
def fewB (D : List Dm) : Bool := decide (D.length ≤ 100) && D.all (fun d => decide (d.L.length ≤ 100))
theorem few_iff (D : List Dm) : fewB D = true ↔ D.length ≤ 100 ∧ ∀ d ∈ D, d.L.length ≤ 100 := by
  unfold fewB; simp only [Bool.and_eq_true, decide_eq_true_eq, List.all_eq_true]
set_option maxHeartbeats 4000000 in
set_option maxRecDepth 100000 in
theorem few10_any (D : List Dm) (ad : Option Addr) (cap : Nat) (w : World) (hD : DmsAt w ad D) (hn : D.length ≤ 9223372036854775807) (hm : ∀ d ∈ D, d.L.length ≤ 9223372036854775807) :
    Calls Tryz.prog 4 #[.slice ad D.length cap] w fun e w' => e = .returned (.bool (fewB D)) ∧ Gr w w' := by
  have HD := Lib.hid hD
  have HM := Lib.hid hm
  clear hD hm
  by_cases hl : (100 : Int) < (D.length : Int)
  · have HF : Hid (fewB D = false) := by show _ = _; unfold fewB; rw [decide_eq_false (by omega)]; rfl
    have hl2 : 100 < D.length := by omega
    go_enter Tryz.func4, Tryz.ntmps4
    go_wp2
    go_ret
    exact ⟨by (rw [HF.out]) <;> rfl, (by (repeat' (first | with_reducible exact Gr.refl _ | with_reducible refine Gr.set ?_ _ ?_ _ | with_reducible refine Gr.alloc ?_ | with_reducible refine Gr.drew ?_ | with_reducible refine Gr.trans ?_ (by assumption))) <;> (first | (simp; done) | (simp; omega) | omega))⟩
  · have hl2 : ¬ 100 < D.length := by omega
    go_enter Tryz.func4, Tryz.ntmps4
    go_wp2
    go_loopw [3] (fun s3 wr => ∃ k : Nat, s3 = .int .i64 k ∧ k ≤ D.length ∧ (∀ j (h : j < D.length), j < k → D[j].L.length ≤ 100) ∧ Gr w wr) (fun s3 _ => D.length - (intOf s3).toNat)
    case atStart => exact ⟨0, rfl, Nat.zero_le _, fun j _ h => absurd h (Nat.not_lt_zero _), Gr.refl _⟩
    case round =>
      obtain ⟨k, rfl, hk, hok, hg⟩ := hrel
      have HG : Hid (Gr w wr) := hg
      have HK := Lib.hid hok
      clear hg hok
      by_cases hlt : k < D.length
      · obtain ⟨b, off, rfl, hb, d0, d1⟩ := DmsAt.at HD.out k hlt
        have d1 := HG.out.keep d1
        have hbw : b < wr.heap.size := Nat.lt_of_lt_of_le hb HG.out.size
        have hki : (k : Int) < (D.length : Int) := by omega
        have hbig := HM.out _ (List.getElem_mem hlt)
        clear d0
        by_cases hq : (100 : Int) < (D[k].L.length : Int)
        · have HF : Hid (fewB D = false) := by
            show _ = _
            cases e : fewB D with
            | false => rfl
            | true => have := ((few_iff D).1 e).2 _ (List.getElem_mem hlt); omega
          have hq2 : 100 < D[k].L.length := by omega
          generalize D[k] = x at *
          go_wp2
          go_ret
          exact ⟨by (rw [HF.out]) <;> rfl, HG.out⟩
        · have hq2 : ¬ 100 < D[k].L.length := by omega
          have HQ : Hid (∀ j (h : j < D.length), j < k + 1 → D[j].L.length ≤ 100) := by
            intro j h hj
            by_cases e : j = k
            · subst e; omega
            · exact HK.out j h (by omega)
          generalize D[k] = x at *
          go_wp2
          go_roundw
          case rel => exact ⟨k + 1, by go_num, by omega, HQ.out, HG.out⟩
          case measure => simp [intOf]; omega
      · have hge : ¬ ((k : Int) < (D.length : Int)) := by omega
        have HF : Hid (fewB D = true) := by
          refine (few_iff D).2 ⟨by omega, fun d hd => ?_⟩
          obtain ⟨j, hj, rfl⟩ := List.getElem_of_mem hd
          exact HK.out j hj (by omega)
        go_wp2
        go_ret
        exact ⟨by (rw [HF.out]) <;> rfl, HG.out⟩
end Go.Proofs.YtfobfpigbfepoaaGreatDoor
namespace Go.Proofs.YtfobfpigbfepoaaGreatDoor
open Df (Stp St tk isT ownB askB stpB defB chE wk kw sm opt fin one stps prs Gd)
open Lex (Tok S mayB numB sigB vl valE okT endT gap butL scT scF scA ckE)
open _root_.Go.Proofs.YtfobfpigbfepoaaGreatDoor.Act (nameB actB digB letB sgnB)
def dg (n : Int) : ByteArray := ⟨(Lib.decDigits n.toNat).toArray⟩
def stW (s : Stp) : List ByteArray := if askB s = true then [Df.wAsk, dg s.o, s.u, Df.wWait, dg s.v] else [wk s.k, s.a, dg s.n, Df.wTries, dg s.y]
def ln (xs : List ByteArray) : List UInt8 := match xs with
  | [a, b, c, d, e] => 32 :: 32 :: (a.data.toList ++ 32 :: (b.data.toList ++ 32 :: (c.data.toList ++ 32 :: (d.data.toList ++ 32 :: (e.data.toList ++ [59, 10])))))
  | _ => []
def stT (s : Stp) : List UInt8 := ln (stW s)
def shH (nm : ByteArray) : List UInt8 := 115 :: 97 :: 103 :: 97 :: 32 :: (nm.data.toList ++ [32, 123, 10])
def shT (nm : ByteArray) (L : List Stp) : List UInt8 := shH nm ++ (L.flatMap stT ++ [125, 10])
theorem digs_len (n : Nat) (k : Nat) (h : n < 10 ^ (k + 1)) : (Lib.decDigits n).length ≤ k + 1 := by
  induction k generalizing n with
  | zero => rw [Lib.decDigits, dif_pos (by simpa using h)]; simp
  | succ k ih =>
    rw [Lib.decDigits]
    split
    · simp
    · have := ih (n / 10) (by rw [Nat.div_lt_iff_lt_mul (by omega)]; rw [Nat.pow_succ] at h; exact h)
      simp; omega
theorem dg_list (n : Int) : (dg n).data.toList = Lib.decDigits n.toNat := by simp [dg]
theorem dg_size (n : Int) (k : Nat) (h : n.toNat < 10 ^ (k + 1)) : (dg n).size ≤ k + 1 := by
  have := digs_len n.toNat k h
  have e : (dg n).size = (dg n).data.toList.length := by simp
  rw [e, dg_list]; exact this
theorem wk_name (k : Int) (h1 : 1 ≤ k) (h2 : k ≤ 4) : nameB (wk k) = true ∧ wk k ≠ Df.wAsk ∧ kw (wk k) = k ∧ (wk k).size ≤ 7 := by
  rcases (by omega : k = 1 ∨ k = 2 ∨ k = 3 ∨ k = 4) with rfl | rfl | rfl | rfl <;> exact ⟨by decide, by decide, by decide, by decide⟩
theorem own_of {s : Stp} (h : stpB s = true) (hk : askB s = false) : ownB s = true := by unfold Df.stpB at h; rw [hk] at h; simpa using h
end Go.Proofs.YtfobfpigbfepoaaGreatDoor
namespace Go.Proofs.YtfobfpigbfepoaaGreatDoor
open Df (Stp St tk isT ownB askB stpB defB chE wk kw sm opt fin one stps prs Gd pE pA pT pN pL)
open Lex (Tok S mayB numB sigB vl valE okT endT gap butL scT scF scA ckE)
open _root_.Go.Proofs.YtfobfpigbfepoaaGreatDoor.Act (nameB actB digB letB sgnB)
theorem ln_len (a b c d e : ByteArray) : (ln [a, b, c, d, e]).length = a.size + b.size + c.size + d.size + e.size + 8 := by
  simp [ln]; omega
theorem name_le {s : ByteArray} (h : nameB s = true) : s.size ≤ 16 := (Act.name_pos h).2
theorem stT_len {s : Stp} (h : stpB s = true) : (stT s).length ≤ 60 := by
  unfold stT stW
  cases hk : askB s with
  | true =>
    obtain ⟨n1, _, _, _, _, o1, o2, v1, v2⟩ := (Df.ask_iff s).1 hk
    simp only [if_true]
    rw [ln_len]
    have := dg_size s.o 1 (by omega)
    have := dg_size s.v 1 (by omega)
    have := name_le n1
    have : Df.wAsk.size = 3 := by decide
    have : Df.wWait.size = 4 := by decide
    omega
  | false =>
    obtain ⟨_, ab, _, _, y1, y2⟩ := (Df.own_iff s).1 (own_of h hk)
    obtain ⟨⟨k1, k2⟩, nb, n1, n2⟩ := (Act.act_iff s.k s.a s.n).1 ab
    simp only [Bool.false_eq_true, if_false]
    rw [ln_len]
    have := dg_size s.n 15 (by omega)
    have := dg_size s.y 1 (by omega)
    have := name_le nb
    have := (wk_name s.k k1 k2).2.2.2
    have : Df.wTries.size = 5 := by decide
    omega
theorem stTs_len : ∀ (L : List Stp), (∀ s ∈ L, stpB s = true) → (L.flatMap stT).length ≤ 60 * L.length := by
  intro L
  induction L with
  | nil => intro _; simp
  | cons s t ih =>
    intro h
    have h1 := stT_len (h s (by simp))
    have h2 := ih (fun x hx => h x (by simp [hx]))
    rw [List.flatMap_cons, List.length_append, List.length_cons]; omega
theorem shT_len {nm : ByteArray} {L : List Stp} (h : defB nm L = true) : (shT nm L).length ≤ 600 := by
  obtain ⟨h1, h2, h3, h4⟩ := (Df.def_iff nm L).1 h
  have := stTs_len L h4
  have := name_le h1
  have hz : nm.data.toList.length = nm.size := by simp
  unfold shT shH
  simp only [List.length_append, List.length_cons, List.length_nil, hz]
  omega
end Go.Proofs.YtfobfpigbfepoaaGreatDoor
namespace Go.Proofs.YtfobfpigbfepoaaGreatDoor
open Go.RowKit
open Df (Stp ownB askB stpB defB chE wk)
open _root_.Go.Proofs.YtfobfpigbfepoaaGreatDoor.Act (nameB)
structure Env (w : World) : Prop where
  tab : Lib.TabIs Tryz.prog w "internal/strconv.uint64pow10" .u64 Lib.pow10Tab
theorem Env.gr {w w' : World} (h : Env w) (g : Gr w w') : Env w' := by
  obtain ⟨ht⟩ := h
  have hc := World.var?_cell (by kernel_rfl : Tryz.prog.globalNamed "internal/strconv.uint64pow10" = some 1) ht 0
  have hb : 1 < w.heap.size := World.block_lt_of_cell? w ⟨1, 0, none⟩ (u := .int .u64 1) (by rw [hc]; rfl)
  exact ⟨var?_below g.below (by kernel_rfl : Tryz.prog.globalNamed "internal/strconv.uint64pow10" = some 1) hb ht⟩
theorem gr_grow (w : World) (k : Nat) (obs : Array Obj) : Gr w (Sort.grow (w.drewN k) obs) := by
  refine ⟨⟨rfl, rfl, rfl, ?_, ?_⟩⟩
  · simp [Sort.grow, World.drewN]
  · intro j hj
    simp [Sort.grow, World.drewN, Array.getElem?_append, hj]
theorem itoa_any (n : Int) (w : World) (h0 : 0 ≤ n) (h1 : n < 100) : Calls Tryz.prog 60 #[.int .i64 n] w fun e w' => e = .returned (.string (dg n)) ∧ Gr w w' := by
  have := Tryz.strconv_Itoa_small n.toNat (by omega) w
  rw [show ((n.toNat : Nat) : Int) = n by omega] at this
  refine this.mono ?_
  rintro e w' ⟨rfl, hw⟩
  rw [hw]
  exact ⟨rfl, Gr.refl _⟩
theorem formatInt_any (n : Int) (w : World) (h0 : 0 ≤ n) (h1 : n ≤ 9223372036854775807) (he : Env w) : Calls Tryz.prog 62 #[.int .i64 n, .int .i64 10] w fun e w' => e = .returned (.string (dg n)) ∧ Gr w w' := by
  refine (Tryz.strconv_FormatInt_10 n (by omega) h1 w he.tab).mono ?_
  rintro e w' ⟨rfl, k, obs, rfl⟩
  refine ⟨?_, gr_grow w k obs⟩
  have : Lib.itoa n = Lib.decDigits n.toNat := by
    unfold Lib.itoa
    rw [if_neg (by omega)]
  rw [this]; rfl
def StrsIn (w : World) (g : Nat) (xs : List ByteArray) : Prop := ∀ (j : Nat) x, xs[j]? = some x → w.cell? ⟨g, 0 + j, none⟩ = some (.string x)
theorem strs_new (w : World) (a b c d e : ByteArray) (t : TypeId) : StrsIn (w.alloc (.cells #[.string a, .string b, .string c, .string d, .string e] t)) w.heap.size [a, b, c, d, e] := by
  intro j x hx
  have hj : j < 5 := by
    have := (List.getElem?_eq_some_iff.1 hx).1
    simpa using this
  match j, hj with
  | 0, _ => simp at hx; subst hx; simp
  | 1, _ => simp at hx; subst hx; simp
  | 2, _ => simp at hx; subst hx; simp
  | 3, _ => simp at hx; subst hx; simp
  | 4, _ => simp at hx; subst hx; simp
theorem holdW {a b : World} {g : Nat} {v0 v1 v2 v3 v4 v5 v6 : Value} (h : AccAt a g v0 v1 v2 v3 v4 v5 v6) (k : Gr a b) : Gr a b ∧ b.cell? ⟨g, 0, none⟩ = some v0 ∧ b.cell? ⟨g, 1, none⟩ = some v1 ∧ b.cell? ⟨g, 2, none⟩ = some v2 ∧ b.cell? ⟨g, 3, none⟩ = some v3 ∧ b.cell? ⟨g, 4, none⟩ = some v4 ∧ b.cell? ⟨g, 5, none⟩ = some v5 ∧ b.cell? ⟨g, 6, none⟩ = some v6 :=
  ⟨k, k.keep h.c0, k.keep h.c1, k.keep h.c2, k.keep h.c3, k.keep h.c4, k.keep h.c5, k.keep h.c6⟩
def WdR (w : World) (xs : List ByteArray) (e : Ending) (w' : World) : Prop := ∃ g, e = .returned (.slice (some ⟨g, 0, none⟩) 5 5) ∧ g < w'.heap.size ∧ StrsIn w' g xs ∧ Gr w w'
set_option maxHeartbeats 8000000 in
set_option maxRecDepth 100000 in
theorem words_any (s : Stp) (w : World) (hs : inS s) (hb : stpB s = true) (he : Env w) : Calls Tryz.prog 31 #[.agg #[.int .i64 s.k, .string s.a, .int .i64 s.n, .int .i64 s.o, .string s.u, .int .i64 s.y, .int .i64 s.v]] w fun e w' => WdR w (stW s) e w' := by
  have HA : Hid (∀ w', Calls Tryz.prog 58 #[.agg #[.int .i64 s.k, .string s.a, .int .i64 s.n, .int .i64 s.o, .string s.u, .int .i64 s.y, .int .i64 s.v]] w' fun e w2 => e = .returned (.bool (askB s)) ∧ Gr w' w2) := fun w' => asks_any s w' hs
  have HX0 := Lib.hid (AccAt.new w (.int .i64 s.k) (.string s.a) (.int .i64 s.n) (.int .i64 s.o) (.string s.u) (.int .i64 s.y) (.int .i64 s.v) 78 _ rfl)
  have HW : Hid (stW s = if askB s = true then [Df.wAsk, dg s.o, s.u, Df.wWait, dg s.v] else [wk s.k, s.a, dg s.n, Df.wTries, dg s.y]) := rfl
  have HE : Hid (Env w) := he
  cases hk : askB s with
  | true =>
    have hq := (Df.ask_iff s).1 hk
    have o1 := hq.2.2.2.2.2.1
    have o2 := hq.2.2.2.2.2.2.1
    have v1 := hq.2.2.2.2.2.2.2.1
    have v2 := hq.2.2.2.2.2.2.2.2
    clear hq
    have H1 : Hid (∀ w', Calls Tryz.prog 60 #[.int .i64 s.o] w' fun e w2 => e = .returned (.string (dg s.o)) ∧ Gr w' w2) := fun w' => itoa_any s.o w' o1 (by omega)
    have H2 : Hid (∀ w', Calls Tryz.prog 60 #[.int .i64 s.v] w' fun e w2 => e = .returned (.string (dg s.v)) ∧ Gr w' w2) := fun w' => itoa_any s.v w' (by omega) (by omega)
    rw [hk] at HA HW
    rw [if_pos rfl] at HW
    clear hk hs hb he o1 o2 v1 v2
    generalize stW s = WS at *
    generalize dg s.o = DO at *
    generalize dg s.v = DV at *
    go_enter Tryz.func31, Tryz.ntmps31
    go_wp2_with fail
    refine (HA.out _).mono ?_
    rintro e w1 ⟨rfl, hg⟩
    have HX1 := Lib.hid (HX0.out.gr hg)
    have HG1 : Hid (Gr w w1) := (Gr.refl _).alloc.trans hg
    obtain ⟨x0, x1, x2, x3, x4, x5, x6⟩ := HX1.out.cells
    have xl := HX1.out.lt
    clear hg
    go_upto_region 2 with fail
    refine wp_region_held_drew (S := (fun w' => Gr w1 w' ∧ w'.cell? ⟨w.heap.size, 0, none⟩ = some (.int .i64 s.k) ∧ w'.cell? ⟨w.heap.size, 1, none⟩ = some (.string s.a) ∧ w'.cell? ⟨w.heap.size, 2, none⟩ = some (.int .i64 s.n) ∧ w'.cell? ⟨w.heap.size, 3, none⟩ = some (.int .i64 s.o) ∧ w'.cell? ⟨w.heap.size, 4, none⟩ = some (.string s.u) ∧ w'.cell? ⟨w.heap.size, 5, none⟩ = some (.int .i64 s.y) ∧ w'.cell? ⟨w.heap.size, 6, none⟩ = some (.int .i64 s.v))) (by kernel_rfl) (by exact holdW HX1.out (by (repeat' (first | with_reducible exact Gr.refl _ | with_reducible refine Gr.set ?_ _ ?_ _ | with_reducible refine Gr.alloc ?_ | with_reducible refine Gr.drew ?_ | with_reducible refine Gr.trans ?_ (by assumption))) <;> (first | (simp; done) | (simp; omega) | omega))) (fun hHeld => ?_)
    refine take_yes 0 5 (v := ?_) rfl rfl (by kernel_rfl) (by kernel_rfl) (by kernel_rfl) (fun _ _ _ h => h) (by rfl) ?_ hHeld ?_
    rotate_left
    · (intro w hSw; (try dsimp only at hSw); go_simp; try with_reducible rfl)
    simp only [Act.put, List.setIfInBounds_toArray, List.set_cons_zero, List.set_cons_succ]
    refine take_yes 1 6 (v := ?_) rfl rfl (by kernel_rfl) (by kernel_rfl) (by kernel_rfl) (fun _ _ _ h => h) (by rfl) ?_ hHeld ?_
    rotate_left
    · (intro w hSw; (try dsimp only at hSw); go_simp; try with_reducible rfl)
    simp only [Act.put, List.setIfInBounds_toArray, List.set_cons_zero, List.set_cons_succ]
    refine take_yes 3 8 (v := ?_) rfl rfl (by kernel_rfl) (by kernel_rfl) (by kernel_rfl) (fun _ _ _ h => h) (by rfl) ?_ hHeld ?_
    rotate_left
    · (intro w hSw; (try dsimp only at hSw); go_simp; try with_reducible rfl)
    simp only [Act.put, List.setIfInBounds_toArray, List.set_cons_zero, List.set_cons_succ]
    refine take_yes 4 9 (v := ?_) rfl rfl (by kernel_rfl) (by kernel_rfl) (by kernel_rfl) (fun _ _ _ h => h) (by rfl) ?_ hHeld ?_
    rotate_left
    · (intro w hSw; (try dsimp only at hSw); go_simp; try with_reducible rfl)
    simp only [Act.put, List.setIfInBounds_toArray, List.set_cons_zero, List.set_cons_succ]
    refine take_yes 5 10 (v := ?_) rfl rfl (by kernel_rfl) (by kernel_rfl) (by kernel_rfl) (fun _ _ _ h => h) (by rfl) ?_ hHeld ?_
    rotate_left
    · (intro w hSw; (try dsimp only at hSw); go_simp; try with_reducible rfl)
    simp only [Act.put, List.setIfInBounds_toArray, List.set_cons_zero, List.set_cons_succ]
    refine take_yes 6 11 (v := ?_) rfl rfl (by kernel_rfl) (by kernel_rfl) (by kernel_rfl) (fun _ _ _ h => h) (by rfl) ?_ hHeld ?_
    rotate_left
    · (intro w hSw; (try dsimp only at hSw); go_simp; try with_reducible rfl)
    simp only [Act.put, List.setIfInBounds_toArray, List.set_cons_zero, List.set_cons_succ]
    refine wpAnyH_ready (rs := [2]) (by kernel_rfl) (by simp) (AllReadyH.cons rfl (fun K hK => ?_) AllReadyH.nil)
    go_simp
    refine (H1.out _).mono ?_; rintro e w2 ⟨rfl, hg2⟩
    (try go_wp2_with fail)
    refine hK.out _ _ (by exact holdW HX1.out (by (repeat' (first | with_reducible exact Gr.refl _ | with_reducible refine Gr.set ?_ _ ?_ _ | with_reducible refine Gr.alloc ?_ | with_reducible refine Gr.drew ?_ | with_reducible refine Gr.trans ?_ (by assumption))) <;> (first | (simp; done) | (simp; omega) | omega))) (fun hHeldN => ?_)
    clear hHeld hK K
    have hHeld := hHeldN
    clear hHeldN
    refine wpAnyH_ready (rs := [7]) (by kernel_rfl) (by simp) (AllReadyH.cons rfl (fun K hK => ?_) AllReadyH.nil)
    go_simp
    refine (H2.out _).mono ?_; rintro e w3 ⟨rfl, hg3⟩
    (try go_wp2_with fail)
    refine hK.out _ _ (by exact holdW HX1.out (by (repeat' (first | with_reducible exact Gr.refl _ | with_reducible refine Gr.set ?_ _ ?_ _ | with_reducible refine Gr.alloc ?_ | with_reducible refine Gr.drew ?_ | with_reducible refine Gr.trans ?_ (by assumption))) <;> (first | (simp; done) | (simp; omega) | omega))) (fun hHeldN => ?_)
    clear hHeld hK K
    have hHeld := hHeldN
    clear hHeldN
    refine wpAnyH_ready (rs := [8]) (by kernel_rfl) (by simp) (AllReadyH.cons rfl (fun K hK => ?_) AllReadyH.nil)
    go_simp
    refine hK.out _ _ (by exact holdW HX1.out (by (repeat' (first | with_reducible exact Gr.refl _ | with_reducible refine Gr.set ?_ _ ?_ _ | with_reducible refine Gr.alloc ?_ | with_reducible refine Gr.drew ?_ | with_reducible refine Gr.trans ?_ (by assumption))) <;> (first | (simp; done) | (simp; omega) | omega))) (fun hHeldN => ?_)
    clear hHeld hK K
    have hHeld := hHeldN
    clear hHeldN
    refine take_yes 9 2 (v := ?_) rfl rfl (by kernel_rfl) (by kernel_rfl) (by kernel_rfl) (fun _ _ _ h => h) (by rfl) ?_ hHeld ?_
    rotate_left
    · (intro w hSw; (try dsimp only at hSw); go_simp; try with_reducible rfl)
    simp only [Act.put, List.setIfInBounds_toArray, List.set_cons_zero, List.set_cons_succ]
    refine wpAnyH_done (by kernel_rfl) ?_ _
    go_wp2
    go_ret
    refine ⟨w3.heap.size, rfl, by simp, ?_, HG1.out.trans (by (repeat' (first | with_reducible exact Gr.refl _ | with_reducible refine Gr.set ?_ _ ?_ _ | with_reducible refine Gr.alloc ?_ | with_reducible refine Gr.drew ?_ | with_reducible refine Gr.trans ?_ (by assumption))) <;> (first | (simp; done) | (simp; omega) | omega))⟩
    rw [HW.out]
    exact strs_new w3 _ _ _ _ _ _
  | false =>
    have hob : ownB s = true := by unfold Df.stpB at hb; rw [hk] at hb; simpa using hb
    have hq := (Df.own_iff s).1 hob
    have ab := hq.2.1
    have y1 := hq.2.2.2.2.1
    have y2 := hq.2.2.2.2.2
    have n1 := ((Act.act_iff s.k s.a s.n).1 ab).2.2.1
    have n2 := ((Act.act_iff s.k s.a s.n).1 ab).2.2.2
    clear hq
    have H0 : Hid (∀ w', Calls Tryz.prog 61 #[.int .i64 s.k] w' fun e w2 => e = .returned (.string (wk s.k)) ∧ Gr w' w2) := fun w' => kindWord_any s.k w'
    have H1 : Hid (∀ w', Gr w w' → Calls Tryz.prog 62 #[.int .i64 s.n, .int .i64 10] w' fun e w2 => e = .returned (.string (dg s.n)) ∧ Gr w' w2) := fun w' g => formatInt_any s.n w' (by omega) (by omega) (he.gr g)
    have H2 : Hid (∀ w', Calls Tryz.prog 60 #[.int .i64 s.y] w' fun e w2 => e = .returned (.string (dg s.y)) ∧ Gr w' w2) := fun w' => itoa_any s.y w' (by omega) (by omega)
    rw [hk] at HA HW
    rw [if_neg (by decide)] at HW
    clear hk hs hb he hob ab n1 n2 y1 y2
    generalize stW s = WS at *
    generalize dg s.n = DN at *
    generalize dg s.y = DY at *
    generalize wk s.k = KW at *
    go_enter Tryz.func31, Tryz.ntmps31
    go_wp2_with fail
    refine (HA.out _).mono ?_
    rintro e w1 ⟨rfl, hg⟩
    have HX1 := Lib.hid (HX0.out.gr hg)
    have HG1 : Hid (Gr w w1) := (Gr.refl _).alloc.trans hg
    obtain ⟨x0, x1, x2, x3, x4, x5, x6⟩ := HX1.out.cells
    have xl := HX1.out.lt
    clear hg
    go_upto_region 3 with fail
    refine wp_region_held_drew (S := (fun w' => Gr w1 w' ∧ w'.cell? ⟨w.heap.size, 0, none⟩ = some (.int .i64 s.k) ∧ w'.cell? ⟨w.heap.size, 1, none⟩ = some (.string s.a) ∧ w'.cell? ⟨w.heap.size, 2, none⟩ = some (.int .i64 s.n) ∧ w'.cell? ⟨w.heap.size, 3, none⟩ = some (.int .i64 s.o) ∧ w'.cell? ⟨w.heap.size, 4, none⟩ = some (.string s.u) ∧ w'.cell? ⟨w.heap.size, 5, none⟩ = some (.int .i64 s.y) ∧ w'.cell? ⟨w.heap.size, 6, none⟩ = some (.int .i64 s.v))) (by kernel_rfl) (by exact holdW HX1.out (by (repeat' (first | with_reducible exact Gr.refl _ | with_reducible refine Gr.set ?_ _ ?_ _ | with_reducible refine Gr.alloc ?_ | with_reducible refine Gr.drew ?_ | with_reducible refine Gr.trans ?_ (by assumption))) <;> (first | (simp; done) | (simp; omega) | omega))) (fun hHeld => ?_)
    refine take_yes 0 14 (v := ?_) rfl rfl (by kernel_rfl) (by kernel_rfl) (by kernel_rfl) (fun _ _ _ h => h) (by rfl) ?_ hHeld ?_
    rotate_left
    · (intro w hSw; (try dsimp only at hSw); go_simp; try with_reducible rfl)
    simp only [Act.put, List.setIfInBounds_toArray, List.set_cons_zero, List.set_cons_succ]
    refine take_yes 1 15 (v := ?_) rfl rfl (by kernel_rfl) (by kernel_rfl) (by kernel_rfl) (fun _ _ _ h => h) (by rfl) ?_ hHeld ?_
    rotate_left
    · (intro w hSw; (try dsimp only at hSw); go_simp; try with_reducible rfl)
    simp only [Act.put, List.setIfInBounds_toArray, List.set_cons_zero, List.set_cons_succ]
    refine take_yes 2 16 (v := ?_) rfl rfl (by kernel_rfl) (by kernel_rfl) (by kernel_rfl) (fun _ _ _ h => h) (by rfl) ?_ hHeld ?_
    rotate_left
    · (intro w hSw; (try dsimp only at hSw); go_simp; try with_reducible rfl)
    simp only [Act.put, List.setIfInBounds_toArray, List.set_cons_zero, List.set_cons_succ]
    refine take_yes 4 18 (v := ?_) rfl rfl (by kernel_rfl) (by kernel_rfl) (by kernel_rfl) (fun _ _ _ h => h) (by rfl) ?_ hHeld ?_
    rotate_left
    · (intro w hSw; (try dsimp only at hSw); go_simp; try with_reducible rfl)
    simp only [Act.put, List.setIfInBounds_toArray, List.set_cons_zero, List.set_cons_succ]
    refine take_yes 5 19 (v := ?_) rfl rfl (by kernel_rfl) (by kernel_rfl) (by kernel_rfl) (fun _ _ _ h => h) (by rfl) ?_ hHeld ?_
    rotate_left
    · (intro w hSw; (try dsimp only at hSw); go_simp; try with_reducible rfl)
    simp only [Act.put, List.setIfInBounds_toArray, List.set_cons_zero, List.set_cons_succ]
    refine take_yes 6 20 (v := ?_) rfl rfl (by kernel_rfl) (by kernel_rfl) (by kernel_rfl) (fun _ _ _ h => h) (by rfl) ?_ hHeld ?_
    rotate_left
    · (intro w hSw; (try dsimp only at hSw); go_simp; try with_reducible rfl)
    simp only [Act.put, List.setIfInBounds_toArray, List.set_cons_zero, List.set_cons_succ]
    refine take_yes 7 21 (v := ?_) rfl rfl (by kernel_rfl) (by kernel_rfl) (by kernel_rfl) (fun _ _ _ h => h) (by rfl) ?_ hHeld ?_
    rotate_left
    · (intro w hSw; (try dsimp only at hSw); go_simp; try with_reducible rfl)
    simp only [Act.put, List.setIfInBounds_toArray, List.set_cons_zero, List.set_cons_succ]
    refine take_yes 8 22 (v := ?_) rfl rfl (by kernel_rfl) (by kernel_rfl) (by kernel_rfl) (fun _ _ _ h => h) (by rfl) ?_ hHeld ?_
    rotate_left
    · (intro w hSw; (try dsimp only at hSw); go_simp; try with_reducible rfl)
    simp only [Act.put, List.setIfInBounds_toArray, List.set_cons_zero, List.set_cons_succ]
    refine take_yes 9 23 (v := ?_) rfl rfl (by kernel_rfl) (by kernel_rfl) (by kernel_rfl) (fun _ _ _ h => h) (by rfl) ?_ hHeld ?_
    rotate_left
    · (intro w hSw; (try dsimp only at hSw); go_simp; try with_reducible rfl)
    simp only [Act.put, List.setIfInBounds_toArray, List.set_cons_zero, List.set_cons_succ]
    refine take_yes 11 25 (v := ?_) rfl rfl (by kernel_rfl) (by kernel_rfl) (by kernel_rfl) (fun _ _ _ h => h) (by rfl) ?_ hHeld ?_
    rotate_left
    · (intro w hSw; (try dsimp only at hSw); go_simp; try with_reducible rfl)
    simp only [Act.put, List.setIfInBounds_toArray, List.set_cons_zero, List.set_cons_succ]
    refine take_yes 12 26 (v := ?_) rfl rfl (by kernel_rfl) (by kernel_rfl) (by kernel_rfl) (fun _ _ _ h => h) (by rfl) ?_ hHeld ?_
    rotate_left
    · (intro w hSw; (try dsimp only at hSw); go_simp; try with_reducible rfl)
    simp only [Act.put, List.setIfInBounds_toArray, List.set_cons_zero, List.set_cons_succ]
    refine wpAnyH_ready (rs := [3]) (by kernel_rfl) (by simp) (AllReadyH.cons rfl (fun K hK => ?_) AllReadyH.nil)
    go_simp
    refine (H0.out _).mono ?_; rintro e w2 ⟨rfl, hg2⟩
    (try go_wp2_with fail)
    refine hK.out _ _ (by exact holdW HX1.out (by (repeat' (first | with_reducible exact Gr.refl _ | with_reducible refine Gr.set ?_ _ ?_ _ | with_reducible refine Gr.alloc ?_ | with_reducible refine Gr.drew ?_ | with_reducible refine Gr.trans ?_ (by assumption))) <;> (first | (simp; done) | (simp; omega) | omega))) (fun hHeldN => ?_)
    clear hHeld hK K
    have hHeld := hHeldN
    clear hHeldN
    refine wpAnyH_ready (rs := [10]) (by kernel_rfl) (by simp) (AllReadyH.cons rfl (fun K hK => ?_) AllReadyH.nil)
    go_simp
    refine (H1.out _ (HG1.out.trans (by (repeat' (first | with_reducible exact Gr.refl _ | with_reducible refine Gr.set ?_ _ ?_ _ | with_reducible refine Gr.alloc ?_ | with_reducible refine Gr.drew ?_ | with_reducible refine Gr.trans ?_ (by assumption))) <;> (first | (simp; done) | (simp; omega) | omega)))).mono ?_; rintro e w3 ⟨rfl, hg3⟩
    (try go_wp2_with fail)
    refine hK.out _ _ (by exact holdW HX1.out (by (repeat' (first | with_reducible exact Gr.refl _ | with_reducible refine Gr.set ?_ _ ?_ _ | with_reducible refine Gr.alloc ?_ | with_reducible refine Gr.drew ?_ | with_reducible refine Gr.trans ?_ (by assumption))) <;> (first | (simp; done) | (simp; omega) | omega))) (fun hHeldN => ?_)
    clear hHeld hK K
    have hHeld := hHeldN
    clear hHeldN
    refine wpAnyH_ready (rs := [13]) (by kernel_rfl) (by simp) (AllReadyH.cons rfl (fun K hK => ?_) AllReadyH.nil)
    go_simp
    refine (H2.out _).mono ?_; rintro e w4 ⟨rfl, hg4⟩
    (try go_wp2_with fail)
    refine hK.out _ _ (by exact holdW HX1.out (by (repeat' (first | with_reducible exact Gr.refl _ | with_reducible refine Gr.set ?_ _ ?_ _ | with_reducible refine Gr.alloc ?_ | with_reducible refine Gr.drew ?_ | with_reducible refine Gr.trans ?_ (by assumption))) <;> (first | (simp; done) | (simp; omega) | omega))) (fun hHeldN => ?_)
    clear hHeld hK K
    have hHeld := hHeldN
    clear hHeldN
    refine wpAnyH_ready (rs := [14]) (by kernel_rfl) (by simp) (AllReadyH.cons rfl (fun K hK => ?_) AllReadyH.nil)
    go_simp
    refine hK.out _ _ (by exact holdW HX1.out (by (repeat' (first | with_reducible exact Gr.refl _ | with_reducible refine Gr.set ?_ _ ?_ _ | with_reducible refine Gr.alloc ?_ | with_reducible refine Gr.drew ?_ | with_reducible refine Gr.trans ?_ (by assumption))) <;> (first | (simp; done) | (simp; omega) | omega))) (fun hHeldN => ?_)
    clear hHeld hK K
    have hHeld := hHeldN
    clear hHeldN
    refine take_yes 15 2 (v := ?_) rfl rfl (by kernel_rfl) (by kernel_rfl) (by kernel_rfl) (fun _ _ _ h => h) (by rfl) ?_ hHeld ?_
    rotate_left
    · (intro w hSw; (try dsimp only at hSw); go_simp; try with_reducible rfl)
    simp only [Act.put, List.setIfInBounds_toArray, List.set_cons_zero, List.set_cons_succ]
    refine wpAnyH_done (by kernel_rfl) ?_ _
    go_wp2
    go_ret
    refine ⟨w4.heap.size, rfl, by simp, ?_, HG1.out.trans (by (repeat' (first | with_reducible exact Gr.refl _ | with_reducible refine Gr.set ?_ _ ?_ _ | with_reducible refine Gr.alloc ?_ | with_reducible refine Gr.drew ?_ | with_reducible refine Gr.trans ?_ (by assumption))) <;> (first | (simp; done) | (simp; omega) | omega))⟩
    rw [HW.out]
    exact strs_new w4 _ _ _ _ _ _
end Go.Proofs.YtfobfpigbfepoaaGreatDoor
namespace Go.Proofs.YtfobfpigbfepoaaGreatDoor
open Go.RowKit
open Df (Stp ownB askB stpB defB chE wk)
def jn (s : Stp) : List UInt8 := Lib.join ((stW s).map (·.data.toList)) [32]
theorem join5 (a b c d e : List UInt8) : Lib.join [a, b, c, d, e] [32] = a ++ 32 :: (b ++ 32 :: (c ++ 32 :: (d ++ 32 :: e))) := by
  simp [Lib.join, List.intercalate]
theorem stW_len (s : Stp) : (stW s).length = 5 := by unfold stW; split <;> rfl
theorem jn_stT (s : Stp) : stT s = [32, 32] ++ jn s ++ [59, 10] := by
  unfold stT jn
  have h := stW_len s
  generalize stW s = xs at *
  match xs, h with
  | [a, b, c, d, e], _ => simp [ln, join5]
def shE (nm : ByteArray) (L : List Stp) : ByteArray := if defB nm L = true then ⟨(shT nm L).toArray⟩ else ⟨#[]⟩
theorem jn_len {s : Stp} (h : stpB s = true) : (jn s).length ≤ 60 := by
  have h1 := stT_len h
  rw [jn_stT] at h1
  simp only [List.length_append, List.length_cons, List.length_nil] at h1
  omega
theorem join_any (s : Stp) (g : Nat) (w : World) (h : stpB s = true) (hg : g < w.heap.size) (hc : StrsIn w g (stW s)) : Calls Tryz.prog 30 #[.slice (some ⟨g, 0, none⟩) 5 5, .string ⟨#[32]⟩] w fun e w' => e = .returned (.string ⟨(jn s).toArray⟩) ∧ Gr w w' := by
  have hl := jn_len h
  have := Tryz.strings_Join g 0 5 (stW s) ⟨#[32]⟩ w hc hg (by rw [stW_len]; omega) (by rw [stW_len]; omega) (by show (jn s).length ≤ _; omega)
  rw [stW_len] at this
  refine this.mono ?_
  rintro e w' ⟨rfl, hb⟩
  exact ⟨rfl, ⟨hb⟩⟩
theorem stT_take (L : List Stp) (k : Nat) (h : k < L.length) : (L.take (k + 1)).flatMap stT = (L.take k).flatMap stT ++ stT L[k] := by
  rw [List.take_succ_eq_append_getElem h, List.flatMap_append]; simp
set_option maxHeartbeats 8000000 in
set_option maxRecDepth 100000 in
theorem dShow_any (nm : ByteArray) (L : List Stp) (ad : Option Addr) (cap : Nat) (w : World) (hL : StpsAt w ad L) (hs : nm.size ≤ 9223372036854775807) (hn : L.length ≤ 9223372036854775807) (hz : ∀ s ∈ L, inS s) (he : Env w) :
    Calls Tryz.prog 14 #[.agg #[.string nm, .slice ad L.length cap]] w fun e w' => e = .returned (.tuple #[.string (shE nm L), .int .i64 (chE nm L)]) ∧ Gr w w' := by
  have HC : Hid (∀ w', Gr w w' → Calls Tryz.prog 29 #[.agg #[.string nm, .slice ad L.length cap]] w' fun e w2 => e = .returned (.int .i64 (chE nm L)) ∧ Gr w' w2) := fun w' g => dCheck_any nm L ad cap w' (hL.gr g) hs hn hz
  have HX0 := Lib.hid (TwoAt.new w (.string nm) (.slice ad L.length cap) 38 _ rfl)
  cases hd : defB nm L with
  | false =>
    have e1 : shE nm L = ⟨#[]⟩ := by unfold shE; rw [hd]; rfl
    have e2 : chE nm L = 90 := Df.ch_no hd
    rw [e1, e2]
    rw [e2] at HC
    clear e1 e2 hd hL hz he
    go_enter Tryz.func14, Tryz.ntmps14
    go_wp2_with fail
    refine (HC.out _ (by repeat (first | exact Gr.refl _ | refine Gr.alloc ?_ | refine Gr.drew ?_ | refine Gr.trans ?_ (by assumption)))).mono ?_
    rintro e w1 ⟨rfl, hg⟩
    go_wp2
    go_ret2
    exact ⟨rfl, (Gr.refl _).alloc.trans hg⟩
  | true =>
    have e1 : shE nm L = ⟨(shT nm L).toArray⟩ := by unfold shE; rw [hd]; rfl
    have e2 : chE nm L = 0 := Df.ch_yes hd
    rw [e1, e2]
    rw [e2] at HC
    have hsl := shT_len hd
    obtain ⟨h1, h2, h8, h4⟩ := (Df.def_iff nm L).1 hd
    have hn16 := name_le h1
    obtain ⟨nl, hnl⟩ : ∃ l : List UInt8, l = nm.data.toList := ⟨_, rfl⟩
    have hnm : nm = ⟨nl.toArray⟩ := by rw [hnl, Lex.bytes_list]
    have hnll : nl.length ≤ 16 := by rw [hnl]; simpa using hn16
    have HT : Hid (shT nm L = [115, 97, 103, 97, 32] ++ nl ++ [32, 123, 10] ++ L.flatMap stT ++ [125, 10]) := by show _ = _; unfold shT shH; rw [hnl]; simp
    have HW : Hid (∀ (j : Nat) (h : j < L.length) (w' : World), Gr w w' → Calls Tryz.prog 31 #[.agg #[.int .i64 L[j].k, .string L[j].a, .int .i64 L[j].n, .int .i64 L[j].o, .string L[j].u, .int .i64 L[j].y, .int .i64 L[j].v]] w' fun e w2 => WdR w' (stW L[j]) e w2) := fun j h w' g => words_any L[j] w' (hz _ (List.getElem_mem h)) (h4 _ (List.getElem_mem h)) (he.gr g)
    have HJ : Hid (∀ (j : Nat) (h : j < L.length) (g : Nat) (w' : World), g < w'.heap.size → StrsIn w' g (stW L[j]) → Calls Tryz.prog 30 #[.slice (some ⟨g, 0, none⟩) 5 5, .string ⟨#[32]⟩] w' fun e w2 => e = .returned (.string ⟨(jn L[j]).toArray⟩) ∧ Gr w' w2) := fun j h g w' hg hc => join_any L[j] g w' (h4 _ (List.getElem_mem h)) hg hc
    have HB : Hid (∀ k, k ≤ L.length → ((L.take k).flatMap stT).length ≤ 480) := by
      intro k hk
      have := stTs_len (L.take k) (fun s hs => h4 s (List.mem_of_mem_take hs))
      rw [List.length_take] at this
      omega
    have HL : Hid (StpsAt w ad L) := hL
    have HP : Hid (∀ s ∈ L, stpB s = true) := h4
    generalize shT nm L = RT at *
    subst hnm
    have a1 := add_lists [115, 97, 103, 97, 32] nl (by simp; omega)
    have a2 := add_lists ([115, 97, 103, 97, 32] ++ nl) [32, 123, 10] (by simp; omega)
    have hH : ([115, 97, 103, 97, 32] ++ nl ++ [32, 123, 10]).length ≤ 24 := by simp; omega
    generalize hHd : [115, 97, 103, 97, 32] ++ nl ++ [32, 123, 10] = HD at *
    generalize [115, 97, 103, 97, 32] ++ nl = t1 at *
    clear hHd hd hL hz he e1 e2 hsl h1 h4 hn16 hnl
    go_enter Tryz.func14, Tryz.ntmps14
    go_wp2_with fail
    refine (HC.out _ (by repeat (first | exact Gr.refl _ | refine Gr.alloc ?_ | refine Gr.drew ?_ | refine Gr.trans ?_ (by assumption)))).mono ?_
    rintro e w1 ⟨rfl, hg⟩
    have HG1 : Hid (Gr w w1) := (Gr.refl _).alloc.trans hg
    obtain ⟨x0, x1, _, _, xl⟩ := HX0.out.gr hg
    clear hg
    go_wp2
    go_loopw [5, 20] (fun sv iv wr => ∃ k : Nat, k ≤ L.length ∧ iv = .int .i64 (k : Int) ∧ sv = .string ⟨(HD ++ (L.take k).flatMap stT).toArray⟩ ∧ Gr w wr) (fun _ iv _ => L.length - (intOf iv).toNat)
    case atStart => exact ⟨0, by omega, rfl, by simp, HG1.out⟩
    case round =>
      obtain ⟨k, hk, rfl, rfl, hg⟩ := hrel
      have HG : Hid (Gr w wr) := hg
      clear hg x0 x1 xl
      have hbk := HB.out k hk
      by_cases hlt : k < L.length
      · obtain ⟨b, off, rfl, hb, x0, x1, x2, x3, x4, x5, x6⟩ := StpsAt.at (HL.out.gr HG.out) k hlt
        have HB0 := Lib.hid (AccAt.new wr (.int .i64 L[k].k) (.string L[k].a) (.int .i64 L[k].n) (.int .i64 L[k].o) (.string L[k].u) (.int .i64 L[k].y) (.int .i64 L[k].v) 78 _ rfl)
        have HWk : Hid (∀ w', Gr w w' → Calls Tryz.prog 31 #[.agg #[.int .i64 L[k].k, .string L[k].a, .int .i64 L[k].n, .int .i64 L[k].o, .string L[k].u, .int .i64 L[k].y, .int .i64 L[k].v]] w' fun e w2 => WdR w' (stW L[k]) e w2) := HW.out k hlt
        have HJk := Lib.hid (HJ.out k hlt)
        have hjl := jn_len (HP.out _ (List.getElem_mem hlt))
        have HFT : Hid ((L.take (k + 1)).flatMap stT = (L.take k).flatMap stT ++ ([32, 32] ++ jn L[k] ++ [59, 10])) := by show _ = _; rw [stT_take L k hlt, jn_stT]
        have a3 := add_lists [32, 32] (jn L[k]) (by simp; omega)
        have a4 := add_lists ([32, 32] ++ jn L[k]) [59, 10] (by simp; omega)
        have a5 := add_lists (HD ++ (L.take k).flatMap stT) ([32, 32] ++ jn L[k] ++ [59, 10]) (by simp only [List.length_append, List.length_cons, List.length_nil] at hH ⊢; omega)
        have HFT2 : Hid (HD ++ (L.take k).flatMap stT ++ ([32, 32] ++ jn L[k] ++ [59, 10]) = HD ++ (L.take (k + 1)).flatMap stT) := by show _ = _; rw [HFT.out, List.append_assoc]
        generalize HD ++ (L.take k).flatMap stT ++ ([32, 32] ++ jn L[k] ++ [59, 10]) = t5 at *
        generalize [32, 32] ++ jn L[k] ++ [59, 10] = t4 at *
        generalize [32, 32] ++ jn L[k] = t3 at *
        generalize HD ++ (L.take k).flatMap stT = t0 at *
        generalize jn L[k] = jk at *
        generalize stW L[k] = sk at *
        generalize L[k].k = y0 at *
        generalize L[k].a = y1 at *
        generalize L[k].n = y2 at *
        generalize L[k].o = y3 at *
        generalize L[k].u = y4 at *
        generalize L[k].y = y5 at *
        generalize L[k].v = y6 at *
        clear a1 a2 hbk hjl
        go_wp2_with fail
        refine (HWk.out _ HG.out.alloc).mono ?_
        rintro e w2 ⟨g, rfl, hgl, hst, hg2⟩
        have HG2 : Hid (Gr w w2) := HG.out.alloc.trans hg2
        have HS2 := Lib.hid hst
        clear hg2 hst x0 x1 x2 x3 x4 x5 x6
        go_wp2_with fail
        refine (HJk.out g _ hgl HS2.out).mono ?_
        rintro e w3 ⟨rfl, hg3⟩
        have HG3 : Hid (Gr w w3) := HG2.out.trans hg3
        clear hg3
        go_wp2
        go_roundw
        case rel => exact ⟨k + 1, by omega, by go_num, by rw [← HFT2.out], HG3.out⟩
        case measure => simp [intOf]; omega
      · obtain rfl : k = L.length := by omega
        rw [List.take_length]
        rw [List.take_length] at hbk
        have a6 := add_lists (HD ++ L.flatMap stT) [125, 10] (by simp only [List.length_append, List.length_cons, List.length_nil] at hH ⊢; omega)
        have HTT : Hid (RT = HD ++ L.flatMap stT ++ [125, 10]) := HT.out
        generalize HD ++ L.flatMap stT ++ [125, 10] = t7 at *
        generalize HD ++ L.flatMap stT = t6 at *
        go_wp2
        go_ret2
        exact ⟨by rw [HTT.out]; rfl, HG.out⟩
end Go.Proofs.YtfobfpigbfepoaaGreatDoor
