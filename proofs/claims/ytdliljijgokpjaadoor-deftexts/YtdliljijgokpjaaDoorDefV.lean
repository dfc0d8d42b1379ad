/- def: Text. -/
import Derived.Test.YtdliljijgokpjaaDoorDefU
import Derived.Test.YtdliljijgokpjaaDoorLexT
import Derived.Test.YtdliljijgokpjaaDoorLexU
namespace Go.Proofs.YtdliljijgokpjaaDoor
open Go.RowKit
open Lex (Tok ckE scT scF scA)
open Df (Stp St tk Gd prs pE pA pT pN pL)

/- the answers of Text -/
def tE (l : List UInt8) : Int := if scF l ≠ 0 then scF l else if pE (scT l) 0 ≠ 0 then pE (scT l) 0 else if (tk (scT l) (pT (scT l) 0).toNat).k ≠ 0 then 81 else 0
def tA (l : List UInt8) : Int := if scF l ≠ 0 then scA l else if pE (scT l) 0 ≠ 0 then pA (scT l) 0 else if (tk (scT l) (pT (scT l) 0).toNat).k ≠ 0 then (tk (scT l) (pT (scT l) 0).toNat).p else 0
def tN (l : List UInt8) : ByteArray := if tE l = 0 then pN (scT l) 0 else ⟨#[]⟩
def tL (l : List UInt8) : List Stp := if tE l = 0 then pL (scT l) 0 else []
def TxR (w : World) (nm : ByteArray) (L : List Stp) (e p : Int) (en : Ending) (w' : World) : Prop :=
  ∃ a c, en = .returned (.tuple #[.agg #[.string nm, .slice a L.length c], .agg #[.int .i64 e, .int .i64 p]]) ∧ StpsAt w' a L ∧ L.length ≤ c ∧ (∀ x, a = some x → w.heap.size ≤ x.block) ∧ Gr w w'

theorem scT_size (l : List UInt8) (hl : l.length ≤ 9223372036854775807) : ∀ x ∈ scT l, x.t.size ≤ 9223372036854775807 := by
  intro x hx
  unfold Lex.scT at hx
  split at hx
  · cases hx
  · split at hx
    · have := (Lex.tok_rng _ _ _ x hx).2; omega
    · cases hx
theorem pT_lt {T : List Tok} (h80 : ckE T ≠ 80) (h0 : pE T 0 = 0) : (pT T 0).toNat < T.length ∧ 0 ≤ pT T 0 := by
  unfold Df.pT
  rw [if_pos h0, Int.toNat_natCast]
  have hat : (0 : Int) ≤ 0 ∧ (0 : Int) < T.length := by
    unfold Df.pE at h0
    rw [if_neg h80] at h0
    split at h0
    · assumption
    · cases h0
  exact ⟨(Df.def_same (Df.gd_of h80) (0 : Int).toNat (by simp; omega)).2.2, by omega⟩
theorem ck_scan {l : List UInt8} (h0 : scF l = 0) : ckE (scT l) ≠ 80 := by
  unfold Lex.scF at h0
  unfold Lex.scT
  split at h0
  · cases h0
  · rename_i hn
    split at h0
    · rename_i hs
      rw [if_neg hn, hs]
      exact Lex.okays_S l hs
    · cases h0

set_option maxHeartbeats 8000000 in
set_option maxRecDepth 100000 in
theorem dText_any (s : ByteArray) (w : World) (hsz : s.size ≤ 9223372036854775807) : Calls Tryd.prog 19 #[.string s] w fun e w' => TxR w (tN s.data.toList) (tL s.data.toList) (tE s.data.toList) (tA s.data.toList) e w' := by
  have hl : s.data.toList.length = s.size := by simp
  have HS : Hid (∀ w' : World, Calls Tryd.prog 41 #[.string s] w' fun e w2 => ∃ ad cap, e = .returned (.tuple #[.slice ad (scT s.data.toList).length cap, .agg #[.int .i64 (scF s.data.toList), .int .i64 (scA s.data.toList)]]) ∧ (scT s.data.toList).length ≤ cap ∧ ToksAt w2 ad (scT s.data.toList) ∧ (∀ a, ad = some a → w'.heap.size ≤ a.block) ∧ Gr w' w2) := fun w' => Scan_any s w'
  have HP : Hid (∀ (ad : Option Addr) (cap : Nat) (w' : World), ToksAt w' ad (scT s.data.toList) → (scT s.data.toList).length ≤ cap → Calls Tryd.prog 16 #[.slice ad (scT s.data.toList).length cap, .int .i64 0] w' fun e w2 => PaR w' (pN (scT s.data.toList) 0) (pL (scT s.data.toList) 0) (pT (scT s.data.toList) 0) (pE (scT s.data.toList) 0) (pA (scT s.data.toList) 0) e w2) := fun ad cap w' h hc => dParse_any _ ad cap 0 w' h hc (by have := Lex.scT_len s.data.toList; omega) (scT_size _ (by omega))
  have HTE : Hid (tE s.data.toList = if scF s.data.toList ≠ 0 then scF s.data.toList else if pE (scT s.data.toList) 0 ≠ 0 then pE (scT s.data.toList) 0 else if (tk (scT s.data.toList) (pT (scT s.data.toList) 0).toNat).k ≠ 0 then 81 else 0) := rfl
  have HTA : Hid (tA s.data.toList = if scF s.data.toList ≠ 0 then scA s.data.toList else if pE (scT s.data.toList) 0 ≠ 0 then pA (scT s.data.toList) 0 else if (tk (scT s.data.toList) (pT (scT s.data.toList) 0).toNat).k ≠ 0 then (tk (scT s.data.toList) (pT (scT s.data.toList) 0).toNat).p else 0) := rfl
  have HTN : Hid (tN s.data.toList = if tE s.data.toList = 0 then pN (scT s.data.toList) 0 else ⟨#[]⟩) := rfl
  have HTL : Hid (tL s.data.toList = if tE s.data.toList = 0 then pL (scT s.data.toList) 0 else []) := rfl
  have HPT : Hid (scF s.data.toList = 0 → pE (scT s.data.toList) 0 = 0 → (pT (scT s.data.toList) 0).toNat < (scT s.data.toList).length ∧ 0 ≤ pT (scT s.data.toList) 0) := fun h1 h2 => pT_lt (ck_scan h1) h2
  have HA0 := Lib.hid (TwoAt.new w (.string ⟨#[]⟩) (.slice none 0 0) 24 _ rfl)
  have HB0 := Lib.hid (TwoAt.new (w.alloc (.cells #[.string ⟨#[]⟩, .slice none 0 0] 24)) (.int .i64 0) (.int .i64 0) 37 (w.heap.size + 1) (by simp))
  clear hsz hl
  generalize tN s.data.toList = TN at *
  generalize tL s.data.toList = TL at *
  generalize tE s.data.toList = TE at *
  generalize tA s.data.toList = TA at *
  generalize scT s.data.toList = T at *
  generalize scF s.data.toList = SF at *
  generalize scA s.data.toList = SA at *
  generalize pN T 0 = PN at *
  generalize pL T 0 = PL at *
  generalize pE T 0 = PE at *
  generalize pA T 0 = PA at *
  generalize pT T 0 = PT at *
  go_enter Tryd.func19, Tryd.ntmps19
  go_wp2_with fail
  refine (HS.out _).mono ?_
  rintro e w1 ⟨ad, cap, rfl, hcp, htk, hfr, hg⟩
  have HG1 : Hid (Gr w w1) := (Gr.refl _).alloc.alloc.trans hg
  have HA1 := Lib.hid ((HA0.out.gr (Gr.refl _).alloc).gr hg)
  have HB1 := Lib.hid (HB0.out.gr hg)
  have HK1 := Lib.hid htk
  have HC1 := Lib.hid hcp
  have HF1 := Lib.hid (TwoAt.new w1 (.int .i64 SF) (.int .i64 SA) 37 _ rfl)
  clear hcp htk hfr hg HA0 HB0
  have n1 : ¬ w1.heap.size = w.heap.size := by have := HB1.out.lt; omega
  have n2 : ¬ w.heap.size = w1.heap.size := by have := HB1.out.lt; omega
  have n3 : ¬ w1.heap.size = w.heap.size + 1 := by have := HB1.out.lt; omega
  have n4 : ¬ w.heap.size + 1 = w1.heap.size := by have := HB1.out.lt; omega
  by_cases h1 : SF = 0
  · subst h1
    go_wp2_with fail
    refine (HP.out ad cap _ (HK1.out.gr (Gr.refl _).alloc) HC1.out).mono ?_
    rintro e w2 ⟨a, c, rfl, hst, hlc, hfr, hg⟩
    have HG2 : Hid (Gr w w2) := HG1.out.alloc.trans hg
    obtain ⟨a0, a1, af0, af1, al⟩ := (HA1.out.gr (Gr.refl _).alloc).gr hg
    obtain ⟨b0, b1, bf0, bf1, bl⟩ := (HB1.out.gr (Gr.refl _).alloc).gr hg
    obtain ⟨f0, f1, ff0, ff1, fl⟩ := HF1.out.gr hg
    have HS2 := Lib.hid hst
    have HE2 : Hid (PL.length ≤ c ∧ ∀ x, a = some x → w1.heap.size + 1 ≤ x.block) := ⟨hlc, fun x e => by have := hfr x e; simpa using this⟩
    have HN1 : Hid (w.heap.size + 1 < w1.heap.size) := HB1.out.lt
    have HK2 := Lib.hid ((HK1.out.gr (Gr.refl _).alloc).gr hg)
    have hn1 := HN1.out
    have m1 : ¬ w2.heap.size = w.heap.size := by omega
    have m2 : ¬ w.heap.size = w2.heap.size := by omega
    have m3 : ¬ w2.heap.size = w.heap.size + 1 := by omega
    have m4 : ¬ w.heap.size + 1 = w2.heap.size := by omega
    have m5 : ¬ w2.heap.size = w1.heap.size := by omega
    have m6 : ¬ w1.heap.size = w2.heap.size := by omega
    clear hst hlc hfr hg hn1
    by_cases h2 : PE = 0
    · subst h2
      obtain ⟨p1, p2⟩ := HPT.out (by first | rfl | trivial) (by first | rfl | trivial)
      obtain ⟨j, hj⟩ : ∃ j : Nat, PT = (j : Int) := ⟨PT.toNat, by omega⟩
      subst hj
      rw [Int.toNat_natCast] at p1 HTE HTA
      obtain ⟨tb, off, rfl, htb, _, _, _⟩ := HK1.out j p1
      obtain ⟨tb', off', e, htb2, t0, t1, t2⟩ := HK2.out j p1
      cases e
      rw [← Df.tk_get T j p1] at t0 t1 t2
      generalize tk T j = x at *
      obtain ⟨xk, xt, xp⟩ := x
      simp only at *
      have nt : ¬ w1.heap.size = tb := by omega
      have nt' : ¬ tb = w1.heap.size := by omega
      have nt2 : ¬ w2.heap.size = tb := by omega
      have nt3 : ¬ tb = w2.heap.size := by omega
      by_cases h3 : xk = 0
      · subst h3
        have HV : Hid (TE = 0 ∧ TA = 0 ∧ TN = PN ∧ TL = PL) := by
          have q1 : TE = 0 := by rw [HTE.out, if_neg (by simp), if_neg (by simp), if_neg (by simp)]
          refine ⟨q1, ?_, ?_, ?_⟩
          · rw [HTA.out, if_neg (by simp), if_neg (by simp), if_neg (by simp)]
          · rw [HTN.out, if_pos q1]
          · rw [HTL.out, if_pos q1]
        clear HTE HTA HTN HTL
        go_wp2
        refine bodyPost_ret (v := .tuple #[.agg #[.string PN, .slice a PL.length c], .agg #[.int .i64 0, .int .i64 0]]) (by simp [results, Tryd.results19, go_sem, *]) rfl ?_
        rw [HV.out.1, HV.out.2.1, HV.out.2.2.1, HV.out.2.2.2]
        have hg2 := HG2.out
        have hn1 := HN1.out
        refine ⟨a, c, rfl, ?_, HE2.out.1, fun x e => by have := HE2.out.2 x e; omega, (by (repeat' (first | with_reducible exact Gr.refl _ | with_reducible refine Gr.set ?_ _ ?_ _ | with_reducible refine Gr.alloc ?_ | with_reducible refine Gr.drew ?_ | with_reducible refine Gr.trans ?_ (by assumption))) <;> (first | (simp; done) | (simp; omega) | omega))⟩
        repeat (first | with_reducible exact HS2.out | with_reducible refine RowAt.setFar ?_ _ _ (fun x e => by have := HE2.out.2 x e; simp; omega) | with_reducible refine RowAt.drew ?_ | with_reducible refine RowAt.alloc ?_ | with_reducible refine RowAt.gr ?_ ((Gr.refl _).drewN _))
      · have e3 : (xk != 0) = true := by simpa using h3
        have HV : Hid (TE = 81 ∧ TA = xp ∧ TN = ⟨#[]⟩ ∧ TL = []) := by
          have q1 : TE = 81 := by rw [HTE.out, if_neg (by simp), if_neg (by simp), if_pos h3]
          refine ⟨q1, ?_, ?_, ?_⟩
          · rw [HTA.out, if_neg (by simp), if_neg (by simp), if_pos h3]
          · rw [HTN.out, if_neg (by rw [q1]; decide)]
          · rw [HTL.out, if_neg (by rw [q1]; decide)]
        clear h3 HTE HTA HTN HTL
        go_wp2
        go_region
        go_wp2
        refine bodyPost_ret (v := .tuple #[.agg #[.string ⟨#[]⟩, .slice none 0 0], .agg #[.int .i64 81, .int .i64 xp]]) (by simp [results, Tryd.results19, go_sem, *]) rfl ?_
        rw [HV.out.1, HV.out.2.1, HV.out.2.2.1, HV.out.2.2.2]
        have hg2 := HG2.out
        have hn1 := HN1.out
        exact ⟨none, 0, rfl, RowAt.nil, by simp, (fun x e => by cases e), (by (repeat' (first | with_reducible exact Gr.refl _ | with_reducible refine Gr.set ?_ _ ?_ _ | with_reducible refine Gr.alloc ?_ | with_reducible refine Gr.drew ?_ | with_reducible refine Gr.trans ?_ (by assumption))) <;> (first | (simp; done) | (simp; omega) | omega))⟩
    · have e2 : (PE != 0) = true := by simpa using h2
      have HV : Hid (TE = PE ∧ TA = PA ∧ TN = ⟨#[]⟩ ∧ TL = []) := by
        have q1 : TE = PE := by rw [HTE.out, if_neg (by simp), if_pos h2]
        refine ⟨q1, ?_, ?_, ?_⟩
        · rw [HTA.out, if_neg (by simp), if_pos h2]
        · rw [HTN.out, if_neg (by rw [q1]; exact h2)]
        · rw [HTL.out, if_neg (by rw [q1]; exact h2)]
      clear h2 HTE HTA HTN HTL
      go_wp2
      go_region
      go_wp2
      refine bodyPost_ret (v := .tuple #[.agg #[.string ⟨#[]⟩, .slice none 0 0], .agg #[.int .i64 PE, .int .i64 PA]]) (by simp [results, Tryd.results19, go_sem, *]) rfl ?_
      rw [HV.out.1, HV.out.2.1, HV.out.2.2.1, HV.out.2.2.2]
      have hg2 := HG2.out
      have hn1 := HN1.out
      exact ⟨none, 0, rfl, RowAt.nil, by simp, (fun x e => by cases e), (by (repeat' (first | with_reducible exact Gr.refl _ | with_reducible refine Gr.set ?_ _ ?_ _ | with_reducible refine Gr.alloc ?_ | with_reducible refine Gr.drew ?_ | with_reducible refine Gr.trans ?_ (by assumption))) <;> (first | (simp; done) | (simp; omega) | omega))⟩
  · have e1 : (SF != 0) = true := by simpa using h1
    have HV : Hid (TE = SF ∧ TA = SA ∧ TN = ⟨#[]⟩ ∧ TL = []) := by
      have q1 : TE = SF := by rw [HTE.out, if_pos h1]
      refine ⟨q1, ?_, ?_, ?_⟩
      · rw [HTA.out, if_pos h1]
      · rw [HTN.out, if_neg (by rw [q1]; exact h1)]
      · rw [HTL.out, if_neg (by rw [q1]; exact h1)]
    clear h1 HTE HTA HTN HTL
    obtain ⟨a0, a1, af0, af1, al⟩ := HA1.out
    obtain ⟨b0, b1, bf0, bf1, bl⟩ := HB1.out
    go_wp2
    go_region
    go_wp2
    refine bodyPost_ret (v := .tuple #[.agg #[.string ⟨#[]⟩, .slice none 0 0], .agg #[.int .i64 SF, .int .i64 SA]]) (by simp [results, Tryd.results19, go_sem, *]) rfl ?_
    rw [HV.out.1, HV.out.2.1, HV.out.2.2.1, HV.out.2.2.2]
    have hg1 := HG1.out
    exact ⟨none, 0, rfl, RowAt.nil, by simp, (fun x e => by cases e), (by (repeat' (first | with_reducible exact Gr.refl _ | with_reducible refine Gr.set ?_ _ ?_ _ | with_reducible refine Gr.alloc ?_ | with_reducible refine Gr.drew ?_ | with_reducible refine Gr.trans ?_ (by assumption))) <;> (first | (simp; done) | (simp; omega) | omega))⟩
end Go.Proofs.YtdliljijgokpjaaDoor
