/- For every input the law LedgerDoes answers true: on any ledger any call does what the document says, and the ledger that came in stays. -/
import Derived.Test.YtgidkmipecfjhaaTLLDoes33
import Derived.Deep.DeepCutAuto
namespace Go.Proofs.Ytgidkmipecfjhaa
open Go.ChangeShapes Go.WideShapes Go.ChangeAt Go.RowKit
open Led (Acc Mk)
set_option maxHeartbeats 2000000 in
set_option maxRecDepth 100000 in
theorem small_big (A : List Acc) (M : List Mk) (adA : Option Addr) (capA : Nat) (adM : Option Addr) (capM : Nat) (w : World) (hb : ¬ (A.length ≤ 100 ∧ M.length ≤ 1000)) :
    Calls Try.prog 8 #[.agg #[.slice adA A.length capA, .slice adM M.length capM]] w fun e w' => e = .returned (.bool false) ∧ Gr w w' := by
  by_cases h1 : (100 : Int) < (A.length : Int)
  · clear hb
    go_enter Try.func8, Try.ntmps8
    go_wp2
    go_ret
    exact ⟨rfl, (by repeat (first | exact Gr.refl _ | refine Gr.alloc ?_ | refine Gr.drew ?_ | refine Gr.trans ?_ (by assumption)))⟩
  · have h4 : (1000 : Int) < (M.length : Int) := by omega
    have h2 : (150 : Int) < (M.length : Int) := by omega
    have h3 : ¬ (M.length : Int) ≤ 500 := by omega
    clear hb
    go_enter Try.func8, Try.ntmps8
    go_wp2
    go_ret
    exact ⟨rfl, (by repeat (first | exact Gr.refl _ | refine Gr.alloc ?_ | refine Gr.drew ?_ | refine Gr.trans ?_ (by assumption)))⟩
set_option maxHeartbeats 16000000 in
set_option maxRecDepth 100000 in
theorem ledgerDoes_walk (A : List Acc) (M : List Mk) (kd : Int) (key : ByteArray) (k n : Int) (t : ByteArray) (adA : Option Addr) (capA : Nat) (adM : Option Addr) (capM : Nat) (w : World) (h : LedAt w adA adM A M) (hs : key.size ≤ 9223372036854775807) (ht : t.size ≤ 9223372036854775807) :
    Calls Try.prog 4 #[.agg #[.slice adA A.length capA, .slice adM M.length capM], .agg #[.int .i64 kd, .string key, .int .i64 k, .string t, .int .i64 n]] w fun e w' => e = .returned (.bool true) ∧ Gr w w' := by
  have HA : Hid (∀ w', Calls Try.prog 9 #[] w' fun e w2 => e = .returned (.bool true) ∧ Gr w' w2) := fun w' => awake_any w'
  by_cases hbig : A.length ≤ 100 ∧ M.length ≤ 1000
  · have HSM : Hid (∀ w', Gr w w' → Calls Try.prog 8 #[.agg #[.slice adA A.length capA, .slice adM M.length capM]] w' fun e w2 => IsB e ∧ Gr w' w2) := fun w' g => small_some A M adA capA adM capM w' (RowAt.gr h.m g) h.la h.lm
    have HL : Hid (LedAt w adA adM A M) := h
    have HLA : Hid (A.length ≤ 100) := hbig.1
    have HLM : Hid (M.length ≤ 1000) := hbig.2
    have HKS : Hid (key.size ≤ 9223372036854775807) := hs
    have HTS : Hid (t.size ≤ 9223372036854775807) := ht
    obtain ⟨iA, hiA, hzA0, hzA1, hzA2⟩ := info_parts infoAcc
    obtain ⟨iM, hiM, hzM0, hzM1, hzM2⟩ := info_parts infoMk
    have HIA := Lib.hid (And.intro hiA (And.intro hzA0 (And.intro hzA1 hzA2)))
    have HIM := Lib.hid (And.intro hiM (And.intro hzM0 (And.intro hzM1 hzM2)))
    clear h hbig hs ht hiA hzA0 hzA1 hzA2 hiM hzM0 hzM1 hzM2
    by_cases hk : (1000 : Int) < (key.size : Int)
    all_goals
      go_enter Try.func4, Try.ntmps4
      go_wp2_with fail
      refine (HSM.out _ (by repeat (first | exact Gr.refl _ | refine Gr.alloc ?_ | refine Gr.drew ?_ | refine Gr.trans ?_ (by assumption)))).mono ?_
      rintro e w1 ⟨⟨b, rfl⟩, hg1⟩
      have HC1 : Hid (w1.cell? ⟨w.heap.size + 1, 0, none⟩ = some (.int .i64 kd) ∧ w1.cell? ⟨w.heap.size + 1, 1, none⟩ = some (.string key) ∧ w1.cell? ⟨w.heap.size + 1, 2, none⟩ = some (.int .i64 k) ∧ w1.cell? ⟨w.heap.size + 1, 3, none⟩ = some (.string t) ∧ w1.cell? ⟨w.heap.size + 1, 4, none⟩ = some (.int .i64 n) ∧ w.heap.size + 1 < w1.heap.size) := ⟨hg1.keep (by simp), hg1.keep (by simp), hg1.keep (by simp), hg1.keep (by simp), hg1.keep (by simp), by have := hg1.size; simp at this; omega⟩
      obtain ⟨k0, k1, k2, k3, k4, kl⟩ := HC1.out
    · cases b
      all_goals
        go_wp2_with fail
        refine (HA.out _).mono ?_
        rintro e w2 ⟨rfl, hg2⟩
        go_wp2
        go_ret
        exact ⟨rfl, (by repeat (first | exact Gr.refl _ | refine Gr.alloc ?_ | refine Gr.drew ?_ | refine Gr.trans ?_ (by assumption)))⟩
    · cases b with
      | false =>
        go_wp2_with fail
        refine (HA.out _).mono ?_
        rintro e w2 ⟨rfl, hg2⟩
        go_wp2
        go_ret
        exact ⟨rfl, (by repeat (first | exact Gr.refl _ | refine Gr.alloc ?_ | refine Gr.drew ?_ | refine Gr.trans ?_ (by assumption)))⟩
      | true =>
        have HB1 : Hid (TwoAt w1 w.heap.size (.slice adA A.length capA) (.slice adM M.length capM)) := ((TwoAt.new w _ _ 25 _ rfl).gr (Gr.refl _).alloc).gr hg1
        have HG1 : Hid (Gr w w1) := (by repeat (first | exact Gr.refl _ | refine Gr.alloc ?_ | refine Gr.drew ?_ | refine Gr.trans ?_ (by assumption)))
        clear hg1
        obtain ⟨b0, b1, _, _, bl⟩ := HB1.out
        go_upto_region 3 with fail
        go_cut [5] (fun sp wx => ∃ (Q : Nat) (c1 : Option Addr) (e1 : Nat) (c2 : Option Addr) (e2 : Nat), sp = .pointer (some ⟨Q, 0, none⟩) ∧ TwoAt wx Q (.slice c1 A.length e1) (.slice c2 M.length e2) ∧ AccsAt wx c1 A ∧ MksAt wx c2 M ∧ Gr w1 wx)
        case first =>
          refine wp_region_held_drew (S := (fun w' => Gr w1 w' ∧ w'.cell? ⟨w.heap.size, 0, none⟩ = some (.slice adA A.length capA) ∧ w'.cell? ⟨w.heap.size, 1, none⟩ = some (.slice adM M.length capM))) (by kernel_rfl) (by exact hold2a (by (with_reducible repeat' (first | exact Gr.refl _ | refine Gr.set ?_ _ ?_ _ | refine Gr.alloc ?_ | refine Gr.drew ?_ | refine Gr.trans ?_ (by assumption))) <;> (first | (simp; done) | (simp; omega) | omega)) b0 b1) (fun hHeld => ?_)
          refine ty 1 33 hHeld ?_
          refine ty 2 34 hHeld ?_
          refine ty 5 37 hHeld ?_
          refine ty 6 38 hHeld ?_
          refine wpAnyH_ready (rs := [0, 4, 9]) (by kernel_rfl) (by simp) (AllReadyH.cons rfl (fun K hK => ?_) (AllReadyH.cons rfl (fun K hK => ?_) (AllReadyH.cons rfl (fun K hK => ?_) AllReadyH.nil)))
          · skip
            go_simp
            refine hK.out _ _ (by exact hold2a (by (with_reducible repeat' (first | exact Gr.refl _ | refine Gr.set ?_ _ ?_ _ | refine Gr.alloc ?_ | refine Gr.drew ?_ | refine Gr.trans ?_ (by assumption))) <;> (first | (simp; done) | (simp; omega) | omega)) b0 b1) (fun hHeldN => ?_)
            clear hHeld hK K
            have hHeld := hHeldN
            clear hHeldN
            refine wpAnyH_ready (rs := [3, 4, 9]) (by kernel_rfl) (by simp) (AllReadyH.cons rfl (fun K hK => ?_) (AllReadyH.cons rfl (fun K hK => ?_) (AllReadyH.cons rfl (fun K hK => ?_) AllReadyH.nil)))
            · skip
              refine step_copy rfl _ _ 22 rfl 31 iA (.agg #[.string ⟨#[]⟩, .int .i64 0, .int .i64 0, .int .i64 0, .int .i64 0, .int .i64 0, .int .i64 0]) 7 64 Try.underlying22 HIA.out.1 HIA.out.2.1 HIA.out.2.2.1 HIA.out.2.2.2 (by decide) _ rfl accC_len A adA capA rfl (RowAt.gr HL.out.a (HG1.out.trans hHeld.1)) (by have := HLA.out; omega) (by have := HLA.out; omega) (by first | (simp; done) | (simp; omega) | omega) ?_
              intro aA cA wA hrA hgA hbA
              have sA := hgA.size
              (try simp at sA)
              refine hK.out (Act.put _ (some 35) (.slice aA A.length cA)) _ (by exact hold2a (by (with_reducible repeat' (first | exact Gr.refl _ | refine Gr.set ?_ _ ?_ _ | refine Gr.alloc ?_ | refine Gr.drew ?_ | refine Gr.trans ?_ (by assumption))) <;> (first | (simp; done) | (simp; omega) | omega)) b0 b1) (fun hHeldN => ?_)
              clear hHeld hK K
              have hHeld := hHeldN
              clear hHeldN
              simp only [Act.put, List.setIfInBounds_toArray, List.set_cons_zero, List.set_cons_succ]
              refine wpAnyH_ready (rs := [4, 9]) (by kernel_rfl) (by simp) (AllReadyH.cons rfl (fun K hK => ?_) (AllReadyH.cons rfl (fun K hK => ?_) AllReadyH.nil))
              · skip
                go_simp
                refine hK.out _ _ (by exact hold2a (by (with_reducible repeat' (first | exact Gr.refl _ | refine Gr.set ?_ _ ?_ _ | refine Gr.alloc ?_ | refine Gr.drew ?_ | refine Gr.trans ?_ (by assumption))) <;> (first | (simp; done) | (simp; omega) | omega)) b0 b1) (fun hHeldN => ?_)
                clear hHeld hK K
                have hHeld := hHeldN
                clear hHeldN
                refine wpAnyH_ready (rs := [7, 9]) (by kernel_rfl) (by simp) (AllReadyH.cons rfl (fun K hK => ?_) (AllReadyH.cons rfl (fun K hK => ?_) AllReadyH.nil))
                · skip
                  refine step_copy rfl _ _ 23 rfl 64 iM (.agg #[.string ⟨#[]⟩, .int .i64 0, .string ⟨#[]⟩, .int .i64 0, .int .i64 0]) 5 56 Try.underlying23 HIM.out.1 HIM.out.2.1 HIM.out.2.2.1 HIM.out.2.2.2 (by decide) _ rfl mkC_len M adM capM rfl (RowAt.gr HL.out.m (HG1.out.trans hHeld.1)) (by have := HLM.out; omega) (by have := HLM.out; omega) (by first | (simp; done) | (simp; omega) | omega) ?_
                  intro aM cM wM hrM hgM hbM
                  have sM := hgM.size
                  (try simp at sM)
                  refine hK.out (Act.put _ (some 39) (.slice aM M.length cM)) _ (by exact hold2a (by (with_reducible repeat' (first | exact Gr.refl _ | refine Gr.set ?_ _ ?_ _ | refine Gr.alloc ?_ | refine Gr.drew ?_ | refine Gr.trans ?_ (by assumption))) <;> (first | (simp; done) | (simp; omega) | omega)) b0 b1) (fun hHeldN => ?_)
                  clear hHeld hK K
                  have hHeld := hHeldN
                  clear hHeldN
                  simp only [Act.put, List.setIfInBounds_toArray, List.set_cons_zero, List.set_cons_succ]
                  refine ty 8 40 hHeld ?_
                  refine wpAnyH_ready (rs := [9]) (by kernel_rfl) (by simp) (AllReadyH.cons rfl (fun K hK => ?_) AllReadyH.nil)
                  go_simp
                  refine hK.out _ _ (by exact hold2a (by (with_reducible repeat' (first | exact Gr.refl _ | refine Gr.set ?_ _ ?_ _ | refine Gr.alloc ?_ | refine Gr.drew ?_ | refine Gr.trans ?_ (by assumption))) <;> (first | (simp; done) | (simp; omega) | omega)) b0 b1) (fun hHeldN => ?_)
                  clear hHeld hK K
                  have hHeld := hHeldN
                  clear hHeldN
                  refine wpAnyH_ready (rs := [10]) (by kernel_rfl) (by simp) (AllReadyH.cons rfl (fun K hK => ?_) AllReadyH.nil)
                  go_simp
                  refine hK.out _ _ (by exact hold2a (by (with_reducible repeat' (first | exact Gr.refl _ | refine Gr.set ?_ _ ?_ _ | refine Gr.alloc ?_ | refine Gr.drew ?_ | refine Gr.trans ?_ (by assumption))) <;> (first | (simp; done) | (simp; omega) | omega)) b0 b1) (fun hHeldN => ?_)
                  clear hHeld hK K
                  have hHeld := hHeldN
                  clear hHeldN
                  refine wpAnyH_done (by kernel_rfl) ?_ _
                  go_wp2_with fail
                  go_meet
                  exact ⟨_, _, _, _, _, rfl, (TwoAt.new wM _ _ 25 _ rfl), (RowAt.gr hrA (by (with_reducible repeat' (first | exact Gr.refl _ | refine Gr.set ?_ _ ?_ _ | refine Gr.alloc ?_ | refine Gr.drew ?_ | refine Gr.trans ?_ (by assumption))) <;> (first | (simp; done) | (simp; omega) | omega))), (RowAt.gr hrM (by (with_reducible repeat' (first | exact Gr.refl _ | refine Gr.set ?_ _ ?_ _ | refine Gr.alloc ?_ | refine Gr.drew ?_ | refine Gr.trans ?_ (by assumption))) <;> (first | (simp; done) | (simp; omega) | omega))), (by (with_reducible repeat' (first | exact Gr.refl _ | refine Gr.set ?_ _ ?_ _ | refine Gr.alloc ?_ | refine Gr.drew ?_ | refine Gr.trans ?_ (by assumption))) <;> (first | (simp; done) | (simp; omega) | omega))⟩
                · skip
                  go_simp
                  refine hK.out _ _ (by exact hold2a (by (with_reducible repeat' (first | exact Gr.refl _ | refine Gr.set ?_ _ ?_ _ | refine Gr.alloc ?_ | refine Gr.drew ?_ | refine Gr.trans ?_ (by assumption))) <;> (first | (simp; done) | (simp; omega) | omega)) b0 b1) (fun hHeldN => ?_)
                  clear hHeld hK K
                  have hHeld := hHeldN
                  clear hHeldN
                  refine wpAnyH_ready (rs := [7]) (by kernel_rfl) (by simp) (AllReadyH.cons rfl (fun K hK => ?_) AllReadyH.nil)
                  refine step_copy rfl _ _ 23 rfl 64 iM (.agg #[.string ⟨#[]⟩, .int .i64 0, .string ⟨#[]⟩, .int .i64 0, .int .i64 0]) 5 56 Try.underlying23 HIM.out.1 HIM.out.2.1 HIM.out.2.2.1 HIM.out.2.2.2 (by decide) _ rfl mkC_len M adM capM rfl (RowAt.gr HL.out.m (HG1.out.trans hHeld.1)) (by have := HLM.out; omega) (by have := HLM.out; omega) (by first | (simp; done) | (simp; omega) | omega) ?_
                  intro aM cM wM hrM hgM hbM
                  have sM := hgM.size
                  (try simp at sM)
                  refine hK.out (Act.put _ (some 39) (.slice aM M.length cM)) _ (by exact hold2a (by (with_reducible repeat' (first | exact Gr.refl _ | refine Gr.set ?_ _ ?_ _ | refine Gr.alloc ?_ | refine Gr.drew ?_ | refine Gr.trans ?_ (by assumption))) <;> (first | (simp; done) | (simp; omega) | omega)) b0 b1) (fun hHeldN => ?_)
                  clear hHeld hK K
                  have hHeld := hHeldN
                  clear hHeldN
                  simp only [Act.put, List.setIfInBounds_toArray, List.set_cons_zero, List.set_cons_succ]
                  refine ty 8 40 hHeld ?_
                  have HQ : Hid (TwoAt wM (wA.heap.size + 1) (.slice none 0 0) (.slice none 0 0)) := (TwoAt.new (wA.alloc (.cells #[] 64)) _ _ 25 (wA.heap.size + 1) (by simp)).gr (by (with_reducible repeat' (first | exact Gr.refl _ | refine Gr.set ?_ _ ?_ _ | refine Gr.alloc ?_ | refine Gr.drew ?_ | refine Gr.trans ?_ (by assumption))) <;> (first | (simp; done) | (simp; omega) | omega))
                  obtain ⟨z0, z1, zf0, zf1, zl⟩ := HQ.out
                  refine wpAnyH_ready (rs := [10]) (by kernel_rfl) (by simp) (AllReadyH.cons rfl (fun K hK => ?_) AllReadyH.nil)
                  go_simp
                  refine hK.out _ _ (by exact hold2a (by (with_reducible repeat' (first | exact Gr.refl _ | refine Gr.set ?_ _ ?_ _ | refine Gr.alloc ?_ | refine Gr.drew ?_ | refine Gr.trans ?_ (by assumption))) <;> (first | (simp; done) | (simp; omega) | omega)) b0 b1) (fun hHeldN => ?_)
                  clear hHeld hK K
                  have hHeld := hHeldN
                  clear hHeldN
                  refine wpAnyH_done (by kernel_rfl) ?_ _
                  go_wp2_with fail
                  go_meet
                  exact ⟨_, _, _, _, _, rfl, (HQ.out.set2 _ _), ((RowAt.setFar (RowAt.gr hrA (by (with_reducible repeat' (first | exact Gr.refl _ | refine Gr.set ?_ _ ?_ _ | refine Gr.alloc ?_ | refine Gr.drew ?_ | refine Gr.trans ?_ (by assumption))) <;> (first | (simp; done) | (simp; omega) | omega))) _ _ (fun a e => by obtain ⟨q1, q2⟩ := hbA a e; (try simp at q2); (try simp); omega)).setFar _ _ (fun a e => by obtain ⟨q1, q2⟩ := hbA a e; (try simp at q2); (try simp); omega)), ((RowAt.setFar (RowAt.gr hrM (by (with_reducible repeat' (first | exact Gr.refl _ | refine Gr.set ?_ _ ?_ _ | refine Gr.alloc ?_ | refine Gr.drew ?_ | refine Gr.trans ?_ (by assumption))) <;> (first | (simp; done) | (simp; omega) | omega))) _ _ (fun a e => by obtain ⟨q1, q2⟩ := hbM a e; (try simp at q2); (try simp); omega)).setFar _ _ (fun a e => by obtain ⟨q1, q2⟩ := hbM a e; (try simp at q2); (try simp); omega)), (by (with_reducible repeat' (first | exact Gr.refl _ | refine Gr.set ?_ _ ?_ _ | refine Gr.alloc ?_ | refine Gr.drew ?_ | refine Gr.trans ?_ (by assumption))) <;> (first | (simp; done) | (simp; omega) | omega))⟩
              · skip
                go_simp
                refine hK.out _ _ (by exact hold2a (by (with_reducible repeat' (first | exact Gr.refl _ | refine Gr.set ?_ _ ?_ _ | refine Gr.alloc ?_ | refine Gr.drew ?_ | refine Gr.trans ?_ (by assumption))) <;> (first | (simp; done) | (simp; omega) | omega)) b0 b1) (fun hHeldN => ?_)
                clear hHeld hK K
                have hHeld := hHeldN
                clear hHeldN
                refine wpAnyH_ready (rs := [4]) (by kernel_rfl) (by simp) (AllReadyH.cons rfl (fun K hK => ?_) AllReadyH.nil)
                go_simp
                refine hK.out _ _ (by exact hold2a (by (with_reducible repeat' (first | exact Gr.refl _ | refine Gr.set ?_ _ ?_ _ | refine Gr.alloc ?_ | refine Gr.drew ?_ | refine Gr.trans ?_ (by assumption))) <;> (first | (simp; done) | (simp; omega) | omega)) b0 b1) (fun hHeldN => ?_)
                clear hHeld hK K
                have hHeld := hHeldN
                clear hHeldN
                refine wpAnyH_ready (rs := [7]) (by kernel_rfl) (by simp) (AllReadyH.cons rfl (fun K hK => ?_) AllReadyH.nil)
                refine step_copy rfl _ _ 23 rfl 64 iM (.agg #[.string ⟨#[]⟩, .int .i64 0, .string ⟨#[]⟩, .int .i64 0, .int .i64 0]) 5 56 Try.underlying23 HIM.out.1 HIM.out.2.1 HIM.out.2.2.1 HIM.out.2.2.2 (by decide) _ rfl mkC_len M adM capM rfl (RowAt.gr HL.out.m (HG1.out.trans hHeld.1)) (by have := HLM.out; omega) (by have := HLM.out; omega) (by first | (simp; done) | (simp; omega) | omega) ?_
                intro aM cM wM hrM hgM hbM
                have sM := hgM.size
                (try simp at sM)
                refine hK.out (Act.put _ (some 39) (.slice aM M.length cM)) _ (by exact hold2a (by (with_reducible repeat' (first | exact Gr.refl _ | refine Gr.set ?_ _ ?_ _ | refine Gr.alloc ?_ | refine Gr.drew ?_ | refine Gr.trans ?_ (by assumption))) <;> (first | (simp; done) | (simp; omega) | omega)) b0 b1) (fun hHeldN => ?_)
                clear hHeld hK K
                have hHeld := hHeldN
                clear hHeldN
                simp only [Act.put, List.setIfInBounds_toArray, List.set_cons_zero, List.set_cons_succ]
                refine ty 8 40 hHeld ?_
                have HQ : Hid (TwoAt wM (wA.heap.size) (.slice none 0 0) (.slice none 0 0)) := (TwoAt.new wA _ _ 25 (wA.heap.size) (by simp)).gr (by (with_reducible repeat' (first | exact Gr.refl _ | refine Gr.set ?_ _ ?_ _ | refine Gr.alloc ?_ | refine Gr.drew ?_ | refine Gr.trans ?_ (by assumption))) <;> (first | (simp; done) | (simp; omega) | omega))
                obtain ⟨z0, z1, zf0, zf1, zl⟩ := HQ.out
                refine wpAnyH_ready (rs := [10]) (by kernel_rfl) (by simp) (AllReadyH.cons rfl (fun K hK => ?_) AllReadyH.nil)
                go_simp
                refine hK.out _ _ (by exact hold2a (by (with_reducible repeat' (first | exact Gr.refl _ | refine Gr.set ?_ _ ?_ _ | refine Gr.alloc ?_ | refine Gr.drew ?_ | refine Gr.trans ?_ (by assumption))) <;> (first | (simp; done) | (simp; omega) | omega)) b0 b1) (fun hHeldN => ?_)
                clear hHeld hK K
                have hHeld := hHeldN
                clear hHeldN
                refine wpAnyH_done (by kernel_rfl) ?_ _
                go_wp2_with fail
                go_meet
                exact ⟨_, _, _, _, _, rfl, (HQ.out.set2 _ _), ((RowAt.setFar (RowAt.gr hrA (by (with_reducible repeat' (first | exact Gr.refl _ | refine Gr.set ?_ _ ?_ _ | refine Gr.alloc ?_ | refine Gr.drew ?_ | refine Gr.trans ?_ (by assumption))) <;> (first | (simp; done) | (simp; omega) | omega))) _ _ (fun a e => by obtain ⟨q1, q2⟩ := hbA a e; (try simp at q2); (try simp); omega)).setFar _ _ (fun a e => by obtain ⟨q1, q2⟩ := hbA a e; (try simp at q2); (try simp); omega)), ((RowAt.setFar (RowAt.gr hrM (by (with_reducible repeat' (first | exact Gr.refl _ | refine Gr.set ?_ _ ?_ _ | refine Gr.alloc ?_ | refine Gr.drew ?_ | refine Gr.trans ?_ (by assumption))) <;> (first | (simp; done) | (simp; omega) | omega))) _ _ (fun a e => by obtain ⟨q1, q2⟩ := hbM a e; (try simp at q2); (try simp); omega)).setFar _ _ (fun a e => by obtain ⟨q1, q2⟩ := hbM a e; (try simp at q2); (try simp); omega)), (by (with_reducible repeat' (first | exact Gr.refl _ | refine Gr.set ?_ _ ?_ _ | refine Gr.alloc ?_ | refine Gr.drew ?_ | refine Gr.trans ?_ (by assumption))) <;> (first | (simp; done) | (simp; omega) | omega))⟩
            · skip
              go_simp
              refine hK.out _ _ (by exact hold2a (by (with_reducible repeat' (first | exact Gr.refl _ | refine Gr.set ?_ _ ?_ _ | refine Gr.alloc ?_ | refine Gr.drew ?_ | refine Gr.trans ?_ (by assumption))) <;> (first | (simp; done) | (simp; omega) | omega)) b0 b1) (fun hHeldN => ?_)
              clear hHeld hK K
              have hHeld := hHeldN
              clear hHeldN
              refine wpAnyH_ready (rs := [3, 9]) (by kernel_rfl) (by simp) (AllReadyH.cons rfl (fun K hK => ?_) (AllReadyH.cons rfl (fun K hK => ?_) AllReadyH.nil))
              · skip
                refine step_copy rfl _ _ 22 rfl 31 iA (.agg #[.string ⟨#[]⟩, .int .i64 0, .int .i64 0, .int .i64 0, .int .i64 0, .int .i64 0, .int .i64 0]) 7 64 Try.underlying22 HIA.out.1 HIA.out.2.1 HIA.out.2.2.1 HIA.out.2.2.2 (by decide) _ rfl accC_len A adA capA rfl (RowAt.gr HL.out.a (HG1.out.trans hHeld.1)) (by have := HLA.out; omega) (by have := HLA.out; omega) (by first | (simp; done) | (simp; omega) | omega) ?_
                intro aA cA wA hrA hgA hbA
                have sA := hgA.size
                (try simp at sA)
                refine hK.out (Act.put _ (some 35) (.slice aA A.length cA)) _ (by exact hold2a (by (with_reducible repeat' (first | exact Gr.refl _ | refine Gr.set ?_ _ ?_ _ | refine Gr.alloc ?_ | refine Gr.drew ?_ | refine Gr.trans ?_ (by assumption))) <;> (first | (simp; done) | (simp; omega) | omega)) b0 b1) (fun hHeldN => ?_)
                clear hHeld hK K
                have hHeld := hHeldN
                clear hHeldN
                simp only [Act.put, List.setIfInBounds_toArray, List.set_cons_zero, List.set_cons_succ]
                refine wpAnyH_ready (rs := [7, 9]) (by kernel_rfl) (by simp) (AllReadyH.cons rfl (fun K hK => ?_) (AllReadyH.cons rfl (fun K hK => ?_) AllReadyH.nil))
                · skip
                  refine step_copy rfl _ _ 23 rfl 64 iM (.agg #[.string ⟨#[]⟩, .int .i64 0, .string ⟨#[]⟩, .int .i64 0, .int .i64 0]) 5 56 Try.underlying23 HIM.out.1 HIM.out.2.1 HIM.out.2.2.1 HIM.out.2.2.2 (by decide) _ rfl mkC_len M adM capM rfl (RowAt.gr HL.out.m (HG1.out.trans hHeld.1)) (by have := HLM.out; omega) (by have := HLM.out; omega) (by first | (simp; done) | (simp; omega) | omega) ?_
                  intro aM cM wM hrM hgM hbM
                  have sM := hgM.size
                  (try simp at sM)
                  refine hK.out (Act.put _ (some 39) (.slice aM M.length cM)) _ (by exact hold2a (by (with_reducible repeat' (first | exact Gr.refl _ | refine Gr.set ?_ _ ?_ _ | refine Gr.alloc ?_ | refine Gr.drew ?_ | refine Gr.trans ?_ (by assumption))) <;> (first | (simp; done) | (simp; omega) | omega)) b0 b1) (fun hHeldN => ?_)
                  clear hHeld hK K
                  have hHeld := hHeldN
                  clear hHeldN
                  simp only [Act.put, List.setIfInBounds_toArray, List.set_cons_zero, List.set_cons_succ]
                  refine ty 8 40 hHeld ?_
                  refine wpAnyH_ready (rs := [9]) (by kernel_rfl) (by simp) (AllReadyH.cons rfl (fun K hK => ?_) AllReadyH.nil)
                  go_simp
                  refine hK.out _ _ (by exact hold2a (by (with_reducible repeat' (first | exact Gr.refl _ | refine Gr.set ?_ _ ?_ _ | refine Gr.alloc ?_ | refine Gr.drew ?_ | refine Gr.trans ?_ (by assumption))) <;> (first | (simp; done) | (simp; omega) | omega)) b0 b1) (fun hHeldN => ?_)
                  clear hHeld hK K
                  have hHeld := hHeldN
                  clear hHeldN
                  refine wpAnyH_ready (rs := [10]) (by kernel_rfl) (by simp) (AllReadyH.cons rfl (fun K hK => ?_) AllReadyH.nil)
                  go_simp
                  refine hK.out _ _ (by exact hold2a (by (with_reducible repeat' (first | exact Gr.refl _ | refine Gr.set ?_ _ ?_ _ | refine Gr.alloc ?_ | refine Gr.drew ?_ | refine Gr.trans ?_ (by assumption))) <;> (first | (simp; done) | (simp; omega) | omega)) b0 b1) (fun hHeldN => ?_)
                  clear hHeld hK K
                  have hHeld := hHeldN
                  clear hHeldN
                  refine wpAnyH_done (by kernel_rfl) ?_ _
                  go_wp2_with fail
                  go_meet
                  exact ⟨_, _, _, _, _, rfl, (TwoAt.new wM _ _ 25 _ rfl), (RowAt.gr hrA (by (with_reducible repeat' (first | exact Gr.refl _ | refine Gr.set ?_ _ ?_ _ | refine Gr.alloc ?_ | refine Gr.drew ?_ | refine Gr.trans ?_ (by assumption))) <;> (first | (simp; done) | (simp; omega) | omega))), (RowAt.gr hrM (by (with_reducible repeat' (first | exact Gr.refl _ | refine Gr.set ?_ _ ?_ _ | refine Gr.alloc ?_ | refine Gr.drew ?_ | refine Gr.trans ?_ (by assumption))) <;> (first | (simp; done) | (simp; omega) | omega))), (by (with_reducible repeat' (first | exact Gr.refl _ | refine Gr.set ?_ _ ?_ _ | refine Gr.alloc ?_ | refine Gr.drew ?_ | refine Gr.trans ?_ (by assumption))) <;> (first | (simp; done) | (simp; omega) | omega))⟩
                · skip
                  go_simp
                  refine hK.out _ _ (by exact hold2a (by (with_reducible repeat' (first | exact Gr.refl _ | refine Gr.set ?_ _ ?_ _ | refine Gr.alloc ?_ | refine Gr.drew ?_ | refine Gr.trans ?_ (by assumption))) <;> (first | (simp; done) | (simp; omega) | omega)) b0 b1) (fun hHeldN => ?_)
                  clear hHeld hK K
                  have hHeld := hHeldN
                  clear hHeldN
                  refine wpAnyH_ready (rs := [7]) (by kernel_rfl) (by simp) (AllReadyH.cons rfl (fun K hK => ?_) AllReadyH.nil)
                  refine step_copy rfl _ _ 23 rfl 64 iM (.agg #[.string ⟨#[]⟩, .int .i64 0, .string ⟨#[]⟩, .int .i64 0, .int .i64 0]) 5 56 Try.underlying23 HIM.out.1 HIM.out.2.1 HIM.out.2.2.1 HIM.out.2.2.2 (by decide) _ rfl mkC_len M adM capM rfl (RowAt.gr HL.out.m (HG1.out.trans hHeld.1)) (by have := HLM.out; omega) (by have := HLM.out; omega) (by first | (simp; done) | (simp; omega) | omega) ?_
                  intro aM cM wM hrM hgM hbM
                  have sM := hgM.size
                  (try simp at sM)
                  refine hK.out (Act.put _ (some 39) (.slice aM M.length cM)) _ (by exact hold2a (by (with_reducible repeat' (first | exact Gr.refl _ | refine Gr.set ?_ _ ?_ _ | refine Gr.alloc ?_ | refine Gr.drew ?_ | refine Gr.trans ?_ (by assumption))) <;> (first | (simp; done) | (simp; omega) | omega)) b0 b1) (fun hHeldN => ?_)
                  clear hHeld hK K
                  have hHeld := hHeldN
                  clear hHeldN
                  simp only [Act.put, List.setIfInBounds_toArray, List.set_cons_zero, List.set_cons_succ]
                  refine ty 8 40 hHeld ?_
                  have HQ : Hid (TwoAt wM (wA.heap.size) (.slice none 0 0) (.slice none 0 0)) := (TwoAt.new wA _ _ 25 (wA.heap.size) (by simp)).gr (by (with_reducible repeat' (first | exact Gr.refl _ | refine Gr.set ?_ _ ?_ _ | refine Gr.alloc ?_ | refine Gr.drew ?_ | refine Gr.trans ?_ (by assumption))) <;> (first | (simp; done) | (simp; omega) | omega))
                  obtain ⟨z0, z1, zf0, zf1, zl⟩ := HQ.out
                  refine wpAnyH_ready (rs := [10]) (by kernel_rfl) (by simp) (AllReadyH.cons rfl (fun K hK => ?_) AllReadyH.nil)
                  go_simp
                  refine hK.out _ _ (by exact hold2a (by (with_reducible repeat' (first | exact Gr.refl _ | refine Gr.set ?_ _ ?_ _ | refine Gr.alloc ?_ | refine Gr.drew ?_ | refine Gr.trans ?_ (by assumption))) <;> (first | (simp; done) | (simp; omega) | omega)) b0 b1) (fun hHeldN => ?_)
                  clear hHeld hK K
                  have hHeld := hHeldN
                  clear hHeldN
                  refine wpAnyH_done (by kernel_rfl) ?_ _
                  go_wp2_with fail
                  go_meet
                  exact ⟨_, _, _, _, _, rfl, (HQ.out.set2 _ _), ((RowAt.setFar (RowAt.gr hrA (by (with_reducible repeat' (first | exact Gr.refl _ | refine Gr.set ?_ _ ?_ _ | refine Gr.alloc ?_ | refine Gr.drew ?_ | refine Gr.trans ?_ (by assumption))) <;> (first | (simp; done) | (simp; omega) | omega))) _ _ (fun a e => by obtain ⟨q1, q2⟩ := hbA a e; (try simp at q2); (try simp); omega)).setFar _ _ (fun a e => by obtain ⟨q1, q2⟩ := hbA a e; (try simp at q2); (try simp); omega)), ((RowAt.setFar (RowAt.gr hrM (by (with_reducible repeat' (first | exact Gr.refl _ | refine Gr.set ?_ _ ?_ _ | refine Gr.alloc ?_ | refine Gr.drew ?_ | refine Gr.trans ?_ (by assumption))) <;> (first | (simp; done) | (simp; omega) | omega))) _ _ (fun a e => by obtain ⟨q1, q2⟩ := hbM a e; (try simp at q2); (try simp); omega)).setFar _ _ (fun a e => by obtain ⟨q1, q2⟩ := hbM a e; (try simp at q2); (try simp); omega)), (by (with_reducible repeat' (first | exact Gr.refl _ | refine Gr.set ?_ _ ?_ _ | refine Gr.alloc ?_ | refine Gr.drew ?_ | refine Gr.trans ?_ (by assumption))) <;> (first | (simp; done) | (simp; omega) | omega))⟩
              · skip
                go_simp
                refine hK.out _ _ (by exact hold2a (by (with_reducible repeat' (first | exact Gr.refl _ | refine Gr.set ?_ _ ?_ _ | refine Gr.alloc ?_ | refine Gr.drew ?_ | refine Gr.trans ?_ (by assumption))) <;> (first | (simp; done) | (simp; omega) | omega)) b0 b1) (fun hHeldN => ?_)
                clear hHeld hK K
                have hHeld := hHeldN
                clear hHeldN
                refine wpAnyH_ready (rs := [3]) (by kernel_rfl) (by simp) (AllReadyH.cons rfl (fun K hK => ?_) AllReadyH.nil)
                refine step_copy rfl _ _ 22 rfl 31 iA (.agg #[.string ⟨#[]⟩, .int .i64 0, .int .i64 0, .int .i64 0, .int .i64 0, .int .i64 0, .int .i64 0]) 7 64 Try.underlying22 HIA.out.1 HIA.out.2.1 HIA.out.2.2.1 HIA.out.2.2.2 (by decide) _ rfl accC_len A adA capA rfl (RowAt.gr HL.out.a (HG1.out.trans hHeld.1)) (by have := HLA.out; omega) (by have := HLA.out; omega) (by first | (simp; done) | (simp; omega) | omega) ?_
                intro aA cA wA hrA hgA hbA
                have sA := hgA.size
                (try simp at sA)
                refine hK.out (Act.put _ (some 35) (.slice aA A.length cA)) _ (by exact hold2a (by (with_reducible repeat' (first | exact Gr.refl _ | refine Gr.set ?_ _ ?_ _ | refine Gr.alloc ?_ | refine Gr.drew ?_ | refine Gr.trans ?_ (by assumption))) <;> (first | (simp; done) | (simp; omega) | omega)) b0 b1) (fun hHeldN => ?_)
                clear hHeld hK K
                have hHeld := hHeldN
                clear hHeldN
                simp only [Act.put, List.setIfInBounds_toArray, List.set_cons_zero, List.set_cons_succ]
                refine wpAnyH_ready (rs := [7]) (by kernel_rfl) (by simp) (AllReadyH.cons rfl (fun K hK => ?_) AllReadyH.nil)
                refine step_copy rfl _ _ 23 rfl 64 iM (.agg #[.string ⟨#[]⟩, .int .i64 0, .string ⟨#[]⟩, .int .i64 0, .int .i64 0]) 5 56 Try.underlying23 HIM.out.1 HIM.out.2.1 HIM.out.2.2.1 HIM.out.2.2.2 (by decide) _ rfl mkC_len M adM capM rfl (RowAt.gr HL.out.m (HG1.out.trans hHeld.1)) (by have := HLM.out; omega) (by have := HLM.out; omega) (by first | (simp; done) | (simp; omega) | omega) ?_
                intro aM cM wM hrM hgM hbM
                have sM := hgM.size
                (try simp at sM)
                refine hK.out (Act.put _ (some 39) (.slice aM M.length cM)) _ (by exact hold2a (by (with_reducible repeat' (first | exact Gr.refl _ | refine Gr.set ?_ _ ?_ _ | refine Gr.alloc ?_ | refine Gr.drew ?_ | refine Gr.trans ?_ (by assumption))) <;> (first | (simp; done) | (simp; omega) | omega)) b0 b1) (fun hHeldN => ?_)
                clear hHeld hK K
                have hHeld := hHeldN
                clear hHeldN
                simp only [Act.put, List.setIfInBounds_toArray, List.set_cons_zero, List.set_cons_succ]
                refine ty 8 40 hHeld ?_
                have HQ : Hid (TwoAt wM (w1.heap.size + 2) (.slice none 0 0) (.slice none 0 0)) := (TwoAt.new ((w1.alloc (.cells #[] 31)).alloc (.cells #[] 64)) _ _ 25 (w1.heap.size + 2) (by simp)).gr (by (with_reducible repeat' (first | exact Gr.refl _ | refine Gr.set ?_ _ ?_ _ | refine Gr.alloc ?_ | refine Gr.drew ?_ | refine Gr.trans ?_ (by assumption))) <;> (first | (simp; done) | (simp; omega) | omega))
                obtain ⟨z0, z1, zf0, zf1, zl⟩ := HQ.out
                refine wpAnyH_ready (rs := [10]) (by kernel_rfl) (by simp) (AllReadyH.cons rfl (fun K hK => ?_) AllReadyH.nil)
                go_simp
                refine hK.out _ _ (by exact hold2a (by (with_reducible repeat' (first | exact Gr.refl _ | refine Gr.set ?_ _ ?_ _ | refine Gr.alloc ?_ | refine Gr.drew ?_ | refine Gr.trans ?_ (by assumption))) <;> (first | (simp; done) | (simp; omega) | omega)) b0 b1) (fun hHeldN => ?_)
                clear hHeld hK K
                have hHeld := hHeldN
                clear hHeldN
                refine wpAnyH_done (by kernel_rfl) ?_ _
                go_wp2_with fail
                go_meet
                exact ⟨_, _, _, _, _, rfl, (HQ.out.set2 _ _), ((RowAt.setFar (RowAt.gr hrA (by (with_reducible repeat' (first | exact Gr.refl _ | refine Gr.set ?_ _ ?_ _ | refine Gr.alloc ?_ | refine Gr.drew ?_ | refine Gr.trans ?_ (by assumption))) <;> (first | (simp; done) | (simp; omega) | omega))) _ _ (fun a e => by obtain ⟨q1, q2⟩ := hbA a e; (try simp at q2); (try simp); omega)).setFar _ _ (fun a e => by obtain ⟨q1, q2⟩ := hbA a e; (try simp at q2); (try simp); omega)), ((RowAt.setFar (RowAt.gr hrM (by (with_reducible repeat' (first | exact Gr.refl _ | refine Gr.set ?_ _ ?_ _ | refine Gr.alloc ?_ | refine Gr.drew ?_ | refine Gr.trans ?_ (by assumption))) <;> (first | (simp; done) | (simp; omega) | omega))) _ _ (fun a e => by obtain ⟨q1, q2⟩ := hbM a e; (try simp at q2); (try simp); omega)).setFar _ _ (fun a e => by obtain ⟨q1, q2⟩ := hbM a e; (try simp at q2); (try simp); omega)), (by (with_reducible repeat' (first | exact Gr.refl _ | refine Gr.set ?_ _ ?_ _ | refine Gr.alloc ?_ | refine Gr.drew ?_ | refine Gr.trans ?_ (by assumption))) <;> (first | (simp; done) | (simp; omega) | omega))⟩
            · skip
              go_simp
              refine hK.out _ _ (by exact hold2a (by (with_reducible repeat' (first | exact Gr.refl _ | refine Gr.set ?_ _ ?_ _ | refine Gr.alloc ?_ | refine Gr.drew ?_ | refine Gr.trans ?_ (by assumption))) <;> (first | (simp; done) | (simp; omega) | omega)) b0 b1) (fun hHeldN => ?_)
              clear hHeld hK K
              have hHeld := hHeldN
              clear hHeldN
              refine wpAnyH_ready (rs := [3, 4]) (by kernel_rfl) (by simp) (AllReadyH.cons rfl (fun K hK => ?_) (AllReadyH.cons rfl (fun K hK => ?_) AllReadyH.nil))
              · skip
                refine step_copy rfl _ _ 22 rfl 31 iA (.agg #[.string ⟨#[]⟩, .int .i64 0, .int .i64 0, .int .i64 0, .int .i64 0, .int .i64 0, .int .i64 0]) 7 64 Try.underlying22 HIA.out.1 HIA.out.2.1 HIA.out.2.2.1 HIA.out.2.2.2 (by decide) _ rfl accC_len A adA capA rfl (RowAt.gr HL.out.a (HG1.out.trans hHeld.1)) (by have := HLA.out; omega) (by have := HLA.out; omega) (by first | (simp; done) | (simp; omega) | omega) ?_
                intro aA cA wA hrA hgA hbA
                have sA := hgA.size
                (try simp at sA)
                refine hK.out (Act.put _ (some 35) (.slice aA A.length cA)) _ (by exact hold2a (by (with_reducible repeat' (first | exact Gr.refl _ | refine Gr.set ?_ _ ?_ _ | refine Gr.alloc ?_ | refine Gr.drew ?_ | refine Gr.trans ?_ (by assumption))) <;> (first | (simp; done) | (simp; omega) | omega)) b0 b1) (fun hHeldN => ?_)
                clear hHeld hK K
                have hHeld := hHeldN
                clear hHeldN
                simp only [Act.put, List.setIfInBounds_toArray, List.set_cons_zero, List.set_cons_succ]
                refine wpAnyH_ready (rs := [4]) (by kernel_rfl) (by simp) (AllReadyH.cons rfl (fun K hK => ?_) AllReadyH.nil)
                go_simp
                refine hK.out _ _ (by exact hold2a (by (with_reducible repeat' (first | exact Gr.refl _ | refine Gr.set ?_ _ ?_ _ | refine Gr.alloc ?_ | refine Gr.drew ?_ | refine Gr.trans ?_ (by assumption))) <;> (first | (simp; done) | (simp; omega) | omega)) b0 b1) (fun hHeldN => ?_)
                clear hHeld hK K
                have hHeld := hHeldN
                clear hHeldN
                refine wpAnyH_ready (rs := [7]) (by kernel_rfl) (by simp) (AllReadyH.cons rfl (fun K hK => ?_) AllReadyH.nil)
                refine step_copy rfl _ _ 23 rfl 64 iM (.agg #[.string ⟨#[]⟩, .int .i64 0, .string ⟨#[]⟩, .int .i64 0, .int .i64 0]) 5 56 Try.underlying23 HIM.out.1 HIM.out.2.1 HIM.out.2.2.1 HIM.out.2.2.2 (by decide) _ rfl mkC_len M adM capM rfl (RowAt.gr HL.out.m (HG1.out.trans hHeld.1)) (by have := HLM.out; omega) (by have := HLM.out; omega) (by first | (simp; done) | (simp; omega) | omega) ?_
                intro aM cM wM hrM hgM hbM
                have sM := hgM.size
                (try simp at sM)
                refine hK.out (Act.put _ (some 39) (.slice aM M.length cM)) _ (by exact hold2a (by (with_reducible repeat' (first | exact Gr.refl _ | refine Gr.set ?_ _ ?_ _ | refine Gr.alloc ?_ | refine Gr.drew ?_ | refine Gr.trans ?_ (by assumption))) <;> (first | (simp; done) | (simp; omega) | omega)) b0 b1) (fun hHeldN => ?_)
                clear hHeld hK K
                have hHeld := hHeldN
                clear hHeldN
                simp only [Act.put, List.setIfInBounds_toArray, List.set_cons_zero, List.set_cons_succ]
                refine ty 8 40 hHeld ?_
                have HQ : Hid (TwoAt wM (w1.heap.size + 1) (.slice none 0 0) (.slice none 0 0)) := (TwoAt.new (w1.alloc (.cells #[] 31)) _ _ 25 (w1.heap.size + 1) (by simp)).gr (by (with_reducible repeat' (first | exact Gr.refl _ | refine Gr.set ?_ _ ?_ _ | refine Gr.alloc ?_ | refine Gr.drew ?_ | refine Gr.trans ?_ (by assumption))) <;> (first | (simp; done) | (simp; omega) | omega))
                obtain ⟨z0, z1, zf0, zf1, zl⟩ := HQ.out
                refine wpAnyH_ready (rs := [10]) (by kernel_rfl) (by simp) (AllReadyH.cons rfl (fun K hK => ?_) AllReadyH.nil)
                go_simp
                refine hK.out _ _ (by exact hold2a (by (with_reducible repeat' (first | exact Gr.refl _ | refine Gr.set ?_ _ ?_ _ | refine Gr.alloc ?_ | refine Gr.drew ?_ | refine Gr.trans ?_ (by assumption))) <;> (first | (simp; done) | (simp; omega) | omega)) b0 b1) (fun hHeldN => ?_)
                clear hHeld hK K
                have hHeld := hHeldN
                clear hHeldN
                refine wpAnyH_done (by kernel_rfl) ?_ _
                go_wp2_with fail
                go_meet
                exact ⟨_, _, _, _, _, rfl, (HQ.out.set2 _ _), ((RowAt.setFar (RowAt.gr hrA (by (with_reducible repeat' (first | exact Gr.refl _ | refine Gr.set ?_ _ ?_ _ | refine Gr.alloc ?_ | refine Gr.drew ?_ | refine Gr.trans ?_ (by assumption))) <;> (first | (simp; done) | (simp; omega) | omega))) _ _ (fun a e => by obtain ⟨q1, q2⟩ := hbA a e; (try simp at q2); (try simp); omega)).setFar _ _ (fun a e => by obtain ⟨q1, q2⟩ := hbA a e; (try simp at q2); (try simp); omega)), ((RowAt.setFar (RowAt.gr hrM (by (with_reducible repeat' (first | exact Gr.refl _ | refine Gr.set ?_ _ ?_ _ | refine Gr.alloc ?_ | refine Gr.drew ?_ | refine Gr.trans ?_ (by assumption))) <;> (first | (simp; done) | (simp; omega) | omega))) _ _ (fun a e => by obtain ⟨q1, q2⟩ := hbM a e; (try simp at q2); (try simp); omega)).setFar _ _ (fun a e => by obtain ⟨q1, q2⟩ := hbM a e; (try simp at q2); (try simp); omega)), (by (with_reducible repeat' (first | exact Gr.refl _ | refine Gr.set ?_ _ ?_ _ | refine Gr.alloc ?_ | refine Gr.drew ?_ | refine Gr.trans ?_ (by assumption))) <;> (first | (simp; done) | (simp; omega) | omega))⟩
              · skip
                go_simp
                refine hK.out _ _ (by exact hold2a (by (with_reducible repeat' (first | exact Gr.refl _ | refine Gr.set ?_ _ ?_ _ | refine Gr.alloc ?_ | refine Gr.drew ?_ | refine Gr.trans ?_ (by assumption))) <;> (first | (simp; done) | (simp; omega) | omega)) b0 b1) (fun hHeldN => ?_)
                clear hHeld hK K
                have hHeld := hHeldN
                clear hHeldN
                refine wpAnyH_ready (rs := [3]) (by kernel_rfl) (by simp) (AllReadyH.cons rfl (fun K hK => ?_) AllReadyH.nil)
                refine step_copy rfl _ _ 22 rfl 31 iA (.agg #[.string ⟨#[]⟩, .int .i64 0, .int .i64 0, .int .i64 0, .int .i64 0, .int .i64 0, .int .i64 0]) 7 64 Try.underlying22 HIA.out.1 HIA.out.2.1 HIA.out.2.2.1 HIA.out.2.2.2 (by decide) _ rfl accC_len A adA capA rfl (RowAt.gr HL.out.a (HG1.out.trans hHeld.1)) (by have := HLA.out; omega) (by have := HLA.out; omega) (by first | (simp; done) | (simp; omega) | omega) ?_
                intro aA cA wA hrA hgA hbA
                have sA := hgA.size
                (try simp at sA)
                refine hK.out (Act.put _ (some 35) (.slice aA A.length cA)) _ (by exact hold2a (by (with_reducible repeat' (first | exact Gr.refl _ | refine Gr.set ?_ _ ?_ _ | refine Gr.alloc ?_ | refine Gr.drew ?_ | refine Gr.trans ?_ (by assumption))) <;> (first | (simp; done) | (simp; omega) | omega)) b0 b1) (fun hHeldN => ?_)
                clear hHeld hK K
                have hHeld := hHeldN
                clear hHeldN
                simp only [Act.put, List.setIfInBounds_toArray, List.set_cons_zero, List.set_cons_succ]
                refine wpAnyH_ready (rs := [7]) (by kernel_rfl) (by simp) (AllReadyH.cons rfl (fun K hK => ?_) AllReadyH.nil)
                refine step_copy rfl _ _ 23 rfl 64 iM (.agg #[.string ⟨#[]⟩, .int .i64 0, .string ⟨#[]⟩, .int .i64 0, .int .i64 0]) 5 56 Try.underlying23 HIM.out.1 HIM.out.2.1 HIM.out.2.2.1 HIM.out.2.2.2 (by decide) _ rfl mkC_len M adM capM rfl (RowAt.gr HL.out.m (HG1.out.trans hHeld.1)) (by have := HLM.out; omega) (by have := HLM.out; omega) (by first | (simp; done) | (simp; omega) | omega) ?_
                intro aM cM wM hrM hgM hbM
                have sM := hgM.size
                (try simp at sM)
                refine hK.out (Act.put _ (some 39) (.slice aM M.length cM)) _ (by exact hold2a (by (with_reducible repeat' (first | exact Gr.refl _ | refine Gr.set ?_ _ ?_ _ | refine Gr.alloc ?_ | refine Gr.drew ?_ | refine Gr.trans ?_ (by assumption))) <;> (first | (simp; done) | (simp; omega) | omega)) b0 b1) (fun hHeldN => ?_)
                clear hHeld hK K
                have hHeld := hHeldN
                clear hHeldN
                simp only [Act.put, List.setIfInBounds_toArray, List.set_cons_zero, List.set_cons_succ]
                refine ty 8 40 hHeld ?_
                have HQ : Hid (TwoAt wM (w1.heap.size + 1) (.slice none 0 0) (.slice none 0 0)) := (TwoAt.new (w1.alloc (.cells #[] 31)) _ _ 25 (w1.heap.size + 1) (by simp)).gr (by (with_reducible repeat' (first | exact Gr.refl _ | refine Gr.set ?_ _ ?_ _ | refine Gr.alloc ?_ | refine Gr.drew ?_ | refine Gr.trans ?_ (by assumption))) <;> (first | (simp; done) | (simp; omega) | omega))
                obtain ⟨z0, z1, zf0, zf1, zl⟩ := HQ.out
                refine wpAnyH_ready (rs := [10]) (by kernel_rfl) (by simp) (AllReadyH.cons rfl (fun K hK => ?_) AllReadyH.nil)
                go_simp
                refine hK.out _ _ (by exact hold2a (by (with_reducible repeat' (first | exact Gr.refl _ | refine Gr.set ?_ _ ?_ _ | refine Gr.alloc ?_ | refine Gr.drew ?_ | refine Gr.trans ?_ (by assumption))) <;> (first | (simp; done) | (simp; omega) | omega)) b0 b1) (fun hHeldN => ?_)
                clear hHeld hK K
                have hHeld := hHeldN
                clear hHeldN
                refine wpAnyH_done (by kernel_rfl) ?_ _
                go_wp2_with fail
                go_meet
                exact ⟨_, _, _, _, _, rfl, (HQ.out.set2 _ _), ((RowAt.setFar (RowAt.gr hrA (by (with_reducible repeat' (first | exact Gr.refl _ | refine Gr.set ?_ _ ?_ _ | refine Gr.alloc ?_ | refine Gr.drew ?_ | refine Gr.trans ?_ (by assumption))) <;> (first | (simp; done) | (simp; omega) | omega))) _ _ (fun a e => by obtain ⟨q1, q2⟩ := hbA a e; (try simp at q2); (try simp); omega)).setFar _ _ (fun a e => by obtain ⟨q1, q2⟩ := hbA a e; (try simp at q2); (try simp); omega)), ((RowAt.setFar (RowAt.gr hrM (by (with_reducible repeat' (first | exact Gr.refl _ | refine Gr.set ?_ _ ?_ _ | refine Gr.alloc ?_ | refine Gr.drew ?_ | refine Gr.trans ?_ (by assumption))) <;> (first | (simp; done) | (simp; omega) | omega))) _ _ (fun a e => by obtain ⟨q1, q2⟩ := hbM a e; (try simp at q2); (try simp); omega)).setFar _ _ (fun a e => by obtain ⟨q1, q2⟩ := hbM a e; (try simp at q2); (try simp); omega)), (by (with_reducible repeat' (first | exact Gr.refl _ | refine Gr.set ?_ _ ?_ _ | refine Gr.alloc ?_ | refine Gr.drew ?_ | refine Gr.trans ?_ (by assumption))) <;> (first | (simp; done) | (simp; omega) | omega))⟩
          · skip
            go_simp
            refine hK.out _ _ (by exact hold2a (by (with_reducible repeat' (first | exact Gr.refl _ | refine Gr.set ?_ _ ?_ _ | refine Gr.alloc ?_ | refine Gr.drew ?_ | refine Gr.trans ?_ (by assumption))) <;> (first | (simp; done) | (simp; omega) | omega)) b0 b1) (fun hHeldN => ?_)
            clear hHeld hK K
            have hHeld := hHeldN
            clear hHeldN
            refine wpAnyH_ready (rs := [0, 9]) (by kernel_rfl) (by simp) (AllReadyH.cons rfl (fun K hK => ?_) (AllReadyH.cons rfl (fun K hK => ?_) AllReadyH.nil))
            · skip
              go_simp
              refine hK.out _ _ (by exact hold2a (by (with_reducible repeat' (first | exact Gr.refl _ | refine Gr.set ?_ _ ?_ _ | refine Gr.alloc ?_ | refine Gr.drew ?_ | refine Gr.trans ?_ (by assumption))) <;> (first | (simp; done) | (simp; omega) | omega)) b0 b1) (fun hHeldN => ?_)
              clear hHeld hK K
              have hHeld := hHeldN
              clear hHeldN
              refine wpAnyH_ready (rs := [3, 9]) (by kernel_rfl) (by simp) (AllReadyH.cons rfl (fun K hK => ?_) (AllReadyH.cons rfl (fun K hK => ?_) AllReadyH.nil))
              · skip
                refine step_copy rfl _ _ 22 rfl 31 iA (.agg #[.string ⟨#[]⟩, .int .i64 0, .int .i64 0, .int .i64 0, .int .i64 0, .int .i64 0, .int .i64 0]) 7 64 Try.underlying22 HIA.out.1 HIA.out.2.1 HIA.out.2.2.1 HIA.out.2.2.2 (by decide) _ rfl accC_len A adA capA rfl (RowAt.gr HL.out.a (HG1.out.trans hHeld.1)) (by have := HLA.out; omega) (by have := HLA.out; omega) (by first | (simp; done) | (simp; omega) | omega) ?_
                intro aA cA wA hrA hgA hbA
                have sA := hgA.size
                (try simp at sA)
                refine hK.out (Act.put _ (some 35) (.slice aA A.length cA)) _ (by exact hold2a (by (with_reducible repeat' (first | exact Gr.refl _ | refine Gr.set ?_ _ ?_ _ | refine Gr.alloc ?_ | refine Gr.drew ?_ | refine Gr.trans ?_ (by assumption))) <;> (first | (simp; done) | (simp; omega) | omega)) b0 b1) (fun hHeldN => ?_)
                clear hHeld hK K
                have hHeld := hHeldN
                clear hHeldN
                simp only [Act.put, List.setIfInBounds_toArray, List.set_cons_zero, List.set_cons_succ]
                refine wpAnyH_ready (rs := [7, 9]) (by kernel_rfl) (by simp) (AllReadyH.cons rfl (fun K hK => ?_) (AllReadyH.cons rfl (fun K hK => ?_) AllReadyH.nil))
                · skip
                  refine step_copy rfl _ _ 23 rfl 64 iM (.agg #[.string ⟨#[]⟩, .int .i64 0, .string ⟨#[]⟩, .int .i64 0, .int .i64 0]) 5 56 Try.underlying23 HIM.out.1 HIM.out.2.1 HIM.out.2.2.1 HIM.out.2.2.2 (by decide) _ rfl mkC_len M adM capM rfl (RowAt.gr HL.out.m (HG1.out.trans hHeld.1)) (by have := HLM.out; omega) (by have := HLM.out; omega) (by first | (simp; done) | (simp; omega) | omega) ?_
                  intro aM cM wM hrM hgM hbM
                  have sM := hgM.size
                  (try simp at sM)
                  refine hK.out (Act.put _ (some 39) (.slice aM M.length cM)) _ (by exact hold2a (by (with_reducible repeat' (first | exact Gr.refl _ | refine Gr.set ?_ _ ?_ _ | refine Gr.alloc ?_ | refine Gr.drew ?_ | refine Gr.trans ?_ (by assumption))) <;> (first | (simp; done) | (simp; omega) | omega)) b0 b1) (fun hHeldN => ?_)
                  clear hHeld hK K
                  have hHeld := hHeldN
                  clear hHeldN
                  simp only [Act.put, List.setIfInBounds_toArray, List.set_cons_zero, List.set_cons_succ]
                  refine ty 8 40 hHeld ?_
                  refine wpAnyH_ready (rs := [9]) (by kernel_rfl) (by simp) (AllReadyH.cons rfl (fun K hK => ?_) AllReadyH.nil)
                  go_simp
                  refine hK.out _ _ (by exact hold2a (by (with_reducible repeat' (first | exact Gr.refl _ | refine Gr.set ?_ _ ?_ _ | refine Gr.alloc ?_ | refine Gr.drew ?_ | refine Gr.trans ?_ (by assumption))) <;> (first | (simp; done) | (simp; omega) | omega)) b0 b1) (fun hHeldN => ?_)
                  clear hHeld hK K
                  have hHeld := hHeldN
                  clear hHeldN
                  refine wpAnyH_ready (rs := [10]) (by kernel_rfl) (by simp) (AllReadyH.cons rfl (fun K hK => ?_) AllReadyH.nil)
                  go_simp
                  refine hK.out _ _ (by exact hold2a (by (with_reducible repeat' (first | exact Gr.refl _ | refine Gr.set ?_ _ ?_ _ | refine Gr.alloc ?_ | refine Gr.drew ?_ | refine Gr.trans ?_ (by assumption))) <;> (first | (simp; done) | (simp; omega) | omega)) b0 b1) (fun hHeldN => ?_)
                  clear hHeld hK K
                  have hHeld := hHeldN
                  clear hHeldN
                  refine wpAnyH_done (by kernel_rfl) ?_ _
                  go_wp2_with fail
                  go_meet
                  exact ⟨_, _, _, _, _, rfl, (TwoAt.new wM _ _ 25 _ rfl), (RowAt.gr hrA (by (with_reducible repeat' (first | exact Gr.refl _ | refine Gr.set ?_ _ ?_ _ | refine Gr.alloc ?_ | refine Gr.drew ?_ | refine Gr.trans ?_ (by assumption))) <;> (first | (simp; done) | (simp; omega) | omega))), (RowAt.gr hrM (by (with_reducible repeat' (first | exact Gr.refl _ | refine Gr.set ?_ _ ?_ _ | refine Gr.alloc ?_ | refine Gr.drew ?_ | refine Gr.trans ?_ (by assumption))) <;> (first | (simp; done) | (simp; omega) | omega))), (by (with_reducible repeat' (first | exact Gr.refl _ | refine Gr.set ?_ _ ?_ _ | refine Gr.alloc ?_ | refine Gr.drew ?_ | refine Gr.trans ?_ (by assumption))) <;> (first | (simp; done) | (simp; omega) | omega))⟩
                · skip
                  go_simp
                  refine hK.out _ _ (by exact hold2a (by (with_reducible repeat' (first | exact Gr.refl _ | refine Gr.set ?_ _ ?_ _ | refine Gr.alloc ?_ | refine Gr.drew ?_ | refine Gr.trans ?_ (by assumption))) <;> (first | (simp; done) | (simp; omega) | omega)) b0 b1) (fun hHeldN => ?_)
                  clear hHeld hK K
                  have hHeld := hHeldN
                  clear hHeldN
                  refine wpAnyH_ready (rs := [7]) (by kernel_rfl) (by simp) (AllReadyH.cons rfl (fun K hK => ?_) AllReadyH.nil)
                  refine step_copy rfl _ _ 23 rfl 64 iM (.agg #[.string ⟨#[]⟩, .int .i64 0, .string ⟨#[]⟩, .int .i64 0, .int .i64 0]) 5 56 Try.underlying23 HIM.out.1 HIM.out.2.1 HIM.out.2.2.1 HIM.out.2.2.2 (by decide) _ rfl mkC_len M adM capM rfl (RowAt.gr HL.out.m (HG1.out.trans hHeld.1)) (by have := HLM.out; omega) (by have := HLM.out; omega) (by first | (simp; done) | (simp; omega) | omega) ?_
                  intro aM cM wM hrM hgM hbM
                  have sM := hgM.size
                  (try simp at sM)
                  refine hK.out (Act.put _ (some 39) (.slice aM M.length cM)) _ (by exact hold2a (by (with_reducible repeat' (first | exact Gr.refl _ | refine Gr.set ?_ _ ?_ _ | refine Gr.alloc ?_ | refine Gr.drew ?_ | refine Gr.trans ?_ (by assumption))) <;> (first | (simp; done) | (simp; omega) | omega)) b0 b1) (fun hHeldN => ?_)
                  clear hHeld hK K
                  have hHeld := hHeldN
                  clear hHeldN
                  simp only [Act.put, List.setIfInBounds_toArray, List.set_cons_zero, List.set_cons_succ]
                  refine ty 8 40 hHeld ?_
                  have HQ : Hid (TwoAt wM (wA.heap.size) (.slice none 0 0) (.slice none 0 0)) := (TwoAt.new wA _ _ 25 (wA.heap.size) (by simp)).gr (by (with_reducible repeat' (first | exact Gr.refl _ | refine Gr.set ?_ _ ?_ _ | refine Gr.alloc ?_ | refine Gr.drew ?_ | refine Gr.trans ?_ (by assumption))) <;> (first | (simp; done) | (simp; omega) | omega))
                  obtain ⟨z0, z1, zf0, zf1, zl⟩ := HQ.out
                  refine wpAnyH_ready (rs := [10]) (by kernel_rfl) (by simp) (AllReadyH.cons rfl (fun K hK => ?_) AllReadyH.nil)
                  go_simp
                  refine hK.out _ _ (by exact hold2a (by (with_reducible repeat' (first | exact Gr.refl _ | refine Gr.set ?_ _ ?_ _ | refine Gr.alloc ?_ | refine Gr.drew ?_ | refine Gr.trans ?_ (by assumption))) <;> (first | (simp; done) | (simp; omega) | omega)) b0 b1) (fun hHeldN => ?_)
                  clear hHeld hK K
                  have hHeld := hHeldN
                  clear hHeldN
                  refine wpAnyH_done (by kernel_rfl) ?_ _
                  go_wp2_with fail
                  go_meet
                  exact ⟨_, _, _, _, _, rfl, (HQ.out.set2 _ _), ((RowAt.setFar (RowAt.gr hrA (by (with_reducible repeat' (first | exact Gr.refl _ | refine Gr.set ?_ _ ?_ _ | refine Gr.alloc ?_ | refine Gr.drew ?_ | refine Gr.trans ?_ (by assumption))) <;> (first | (simp; done) | (simp; omega) | omega))) _ _ (fun a e => by obtain ⟨q1, q2⟩ := hbA a e; (try simp at q2); (try simp); omega)).setFar _ _ (fun a e => by obtain ⟨q1, q2⟩ := hbA a e; (try simp at q2); (try simp); omega)), ((RowAt.setFar (RowAt.gr hrM (by (with_reducible repeat' (first | exact Gr.refl _ | refine Gr.set ?_ _ ?_ _ | refine Gr.alloc ?_ | refine Gr.drew ?_ | refine Gr.trans ?_ (by assumption))) <;> (first | (simp; done) | (simp; omega) | omega))) _ _ (fun a e => by obtain ⟨q1, q2⟩ := hbM a e; (try simp at q2); (try simp); omega)).setFar _ _ (fun a e => by obtain ⟨q1, q2⟩ := hbM a e; (try simp at q2); (try simp); omega)), (by (with_reducible repeat' (first | exact Gr.refl _ | refine Gr.set ?_ _ ?_ _ | refine Gr.alloc ?_ | refine Gr.drew ?_ | refine Gr.trans ?_ (by assumption))) <;> (first | (simp; done) | (simp; omega) | omega))⟩
              · skip
                go_simp
                refine hK.out _ _ (by exact hold2a (by (with_reducible repeat' (first | exact Gr.refl _ | refine Gr.set ?_ _ ?_ _ | refine Gr.alloc ?_ | refine Gr.drew ?_ | refine Gr.trans ?_ (by assumption))) <;> (first | (simp; done) | (simp; omega) | omega)) b0 b1) (fun hHeldN => ?_)
                clear hHeld hK K
                have hHeld := hHeldN
                clear hHeldN
                refine wpAnyH_ready (rs := [3]) (by kernel_rfl) (by simp) (AllReadyH.cons rfl (fun K hK => ?_) AllReadyH.nil)
                refine step_copy rfl _ _ 22 rfl 31 iA (.agg #[.string ⟨#[]⟩, .int .i64 0, .int .i64 0, .int .i64 0, .int .i64 0, .int .i64 0, .int .i64 0]) 7 64 Try.underlying22 HIA.out.1 HIA.out.2.1 HIA.out.2.2.1 HIA.out.2.2.2 (by decide) _ rfl accC_len A adA capA rfl (RowAt.gr HL.out.a (HG1.out.trans hHeld.1)) (by have := HLA.out; omega) (by have := HLA.out; omega) (by first | (simp; done) | (simp; omega) | omega) ?_
                intro aA cA wA hrA hgA hbA
                have sA := hgA.size
                (try simp at sA)
                refine hK.out (Act.put _ (some 35) (.slice aA A.length cA)) _ (by exact hold2a (by (with_reducible repeat' (first | exact Gr.refl _ | refine Gr.set ?_ _ ?_ _ | refine Gr.alloc ?_ | refine Gr.drew ?_ | refine Gr.trans ?_ (by assumption))) <;> (first | (simp; done) | (simp; omega) | omega)) b0 b1) (fun hHeldN => ?_)
                clear hHeld hK K
                have hHeld := hHeldN
                clear hHeldN
                simp only [Act.put, List.setIfInBounds_toArray, List.set_cons_zero, List.set_cons_succ]
                refine wpAnyH_ready (rs := [7]) (by kernel_rfl) (by simp) (AllReadyH.cons rfl (fun K hK => ?_) AllReadyH.nil)
                refine step_copy rfl _ _ 23 rfl 64 iM (.agg #[.string ⟨#[]⟩, .int .i64 0, .string ⟨#[]⟩, .int .i64 0, .int .i64 0]) 5 56 Try.underlying23 HIM.out.1 HIM.out.2.1 HIM.out.2.2.1 HIM.out.2.2.2 (by decide) _ rfl mkC_len M adM capM rfl (RowAt.gr HL.out.m (HG1.out.trans hHeld.1)) (by have := HLM.out; omega) (by have := HLM.out; omega) (by first | (simp; done) | (simp; omega) | omega) ?_
                intro aM cM wM hrM hgM hbM
                have sM := hgM.size
                (try simp at sM)
                refine hK.out (Act.put _ (some 39) (.slice aM M.length cM)) _ (by exact hold2a (by (with_reducible repeat' (first | exact Gr.refl _ | refine Gr.set ?_ _ ?_ _ | refine Gr.alloc ?_ | refine Gr.drew ?_ | refine Gr.trans ?_ (by assumption))) <;> (first | (simp; done) | (simp; omega) | omega)) b0 b1) (fun hHeldN => ?_)
                clear hHeld hK K
                have hHeld := hHeldN
                clear hHeldN
                simp only [Act.put, List.setIfInBounds_toArray, List.set_cons_zero, List.set_cons_succ]
                refine ty 8 40 hHeld ?_
                have HQ : Hid (TwoAt wM (w1.heap.size + 2) (.slice none 0 0) (.slice none 0 0)) := (TwoAt.new ((w1.alloc (.cells #[] 64)).alloc (.cells #[] 31)) _ _ 25 (w1.heap.size + 2) (by simp)).gr (by (with_reducible repeat' (first | exact Gr.refl _ | refine Gr.set ?_ _ ?_ _ | refine Gr.alloc ?_ | refine Gr.drew ?_ | refine Gr.trans ?_ (by assumption))) <;> (first | (simp; done) | (simp; omega) | omega))
                obtain ⟨z0, z1, zf0, zf1, zl⟩ := HQ.out
                refine wpAnyH_ready (rs := [10]) (by kernel_rfl) (by simp) (AllReadyH.cons rfl (fun K hK => ?_) AllReadyH.nil)
                go_simp
                refine hK.out _ _ (by exact hold2a (by (with_reducible repeat' (first | exact Gr.refl _ | refine Gr.set ?_ _ ?_ _ | refine Gr.alloc ?_ | refine Gr.drew ?_ | refine Gr.trans ?_ (by assumption))) <;> (first | (simp; done) | (simp; omega) | omega)) b0 b1) (fun hHeldN => ?_)
                clear hHeld hK K
                have hHeld := hHeldN
                clear hHeldN
                refine wpAnyH_done (by kernel_rfl) ?_ _
                go_wp2_with fail
                go_meet
                exact ⟨_, _, _, _, _, rfl, (HQ.out.set2 _ _), ((RowAt.setFar (RowAt.gr hrA (by (with_reducible repeat' (first | exact Gr.refl _ | refine Gr.set ?_ _ ?_ _ | refine Gr.alloc ?_ | refine Gr.drew ?_ | refine Gr.trans ?_ (by assumption))) <;> (first | (simp; done) | (simp; omega) | omega))) _ _ (fun a e => by obtain ⟨q1, q2⟩ := hbA a e; (try simp at q2); (try simp); omega)).setFar _ _ (fun a e => by obtain ⟨q1, q2⟩ := hbA a e; (try simp at q2); (try simp); omega)), ((RowAt.setFar (RowAt.gr hrM (by (with_reducible repeat' (first | exact Gr.refl _ | refine Gr.set ?_ _ ?_ _ | refine Gr.alloc ?_ | refine Gr.drew ?_ | refine Gr.trans ?_ (by assumption))) <;> (first | (simp; done) | (simp; omega) | omega))) _ _ (fun a e => by obtain ⟨q1, q2⟩ := hbM a e; (try simp at q2); (try simp); omega)).setFar _ _ (fun a e => by obtain ⟨q1, q2⟩ := hbM a e; (try simp at q2); (try simp); omega)), (by (with_reducible repeat' (first | exact Gr.refl _ | refine Gr.set ?_ _ ?_ _ | refine Gr.alloc ?_ | refine Gr.drew ?_ | refine Gr.trans ?_ (by assumption))) <;> (first | (simp; done) | (simp; omega) | omega))⟩
            · skip
              go_simp
              refine hK.out _ _ (by exact hold2a (by (with_reducible repeat' (first | exact Gr.refl _ | refine Gr.set ?_ _ ?_ _ | refine Gr.alloc ?_ | refine Gr.drew ?_ | refine Gr.trans ?_ (by assumption))) <;> (first | (simp; done) | (simp; omega) | omega)) b0 b1) (fun hHeldN => ?_)
              clear hHeld hK K
              have hHeld := hHeldN
              clear hHeldN
              refine wpAnyH_ready (rs := [0]) (by kernel_rfl) (by simp) (AllReadyH.cons rfl (fun K hK => ?_) AllReadyH.nil)
              go_simp
              refine hK.out _ _ (by exact hold2a (by (with_reducible repeat' (first | exact Gr.refl _ | refine Gr.set ?_ _ ?_ _ | refine Gr.alloc ?_ | refine Gr.drew ?_ | refine Gr.trans ?_ (by assumption))) <;> (first | (simp; done) | (simp; omega) | omega)) b0 b1) (fun hHeldN => ?_)
              clear hHeld hK K
              have hHeld := hHeldN
              clear hHeldN
              refine wpAnyH_ready (rs := [3]) (by kernel_rfl) (by simp) (AllReadyH.cons rfl (fun K hK => ?_) AllReadyH.nil)
              refine step_copy rfl _ _ 22 rfl 31 iA (.agg #[.string ⟨#[]⟩, .int .i64 0, .int .i64 0, .int .i64 0, .int .i64 0, .int .i64 0, .int .i64 0]) 7 64 Try.underlying22 HIA.out.1 HIA.out.2.1 HIA.out.2.2.1 HIA.out.2.2.2 (by decide) _ rfl accC_len A adA capA rfl (RowAt.gr HL.out.a (HG1.out.trans hHeld.1)) (by have := HLA.out; omega) (by have := HLA.out; omega) (by first | (simp; done) | (simp; omega) | omega) ?_
              intro aA cA wA hrA hgA hbA
              have sA := hgA.size
              (try simp at sA)
              refine hK.out (Act.put _ (some 35) (.slice aA A.length cA)) _ (by exact hold2a (by (with_reducible repeat' (first | exact Gr.refl _ | refine Gr.set ?_ _ ?_ _ | refine Gr.alloc ?_ | refine Gr.drew ?_ | refine Gr.trans ?_ (by assumption))) <;> (first | (simp; done) | (simp; omega) | omega)) b0 b1) (fun hHeldN => ?_)
              clear hHeld hK K
              have hHeld := hHeldN
              clear hHeldN
              simp only [Act.put, List.setIfInBounds_toArray, List.set_cons_zero, List.set_cons_succ]
              refine wpAnyH_ready (rs := [7]) (by kernel_rfl) (by simp) (AllReadyH.cons rfl (fun K hK => ?_) AllReadyH.nil)
              refine step_copy rfl _ _ 23 rfl 64 iM (.agg #[.string ⟨#[]⟩, .int .i64 0, .string ⟨#[]⟩, .int .i64 0, .int .i64 0]) 5 56 Try.underlying23 HIM.out.1 HIM.out.2.1 HIM.out.2.2.1 HIM.out.2.2.2 (by decide) _ rfl mkC_len M adM capM rfl (RowAt.gr HL.out.m (HG1.out.trans hHeld.1)) (by have := HLM.out; omega) (by have := HLM.out; omega) (by first | (simp; done) | (simp; omega) | omega) ?_
              intro aM cM wM hrM hgM hbM
              have sM := hgM.size
              (try simp at sM)
              refine hK.out (Act.put _ (some 39) (.slice aM M.length cM)) _ (by exact hold2a (by (with_reducible repeat' (first | exact Gr.refl _ | refine Gr.set ?_ _ ?_ _ | refine Gr.alloc ?_ | refine Gr.drew ?_ | refine Gr.trans ?_ (by assumption))) <;> (first | (simp; done) | (simp; omega) | omega)) b0 b1) (fun hHeldN => ?_)
              clear hHeld hK K
              have hHeld := hHeldN
              clear hHeldN
              simp only [Act.put, List.setIfInBounds_toArray, List.set_cons_zero, List.set_cons_succ]
              refine ty 8 40 hHeld ?_
              have HQ : Hid (TwoAt wM (w1.heap.size + 1) (.slice none 0 0) (.slice none 0 0)) := (TwoAt.new (w1.alloc (.cells #[] 64)) _ _ 25 (w1.heap.size + 1) (by simp)).gr (by (with_reducible repeat' (first | exact Gr.refl _ | refine Gr.set ?_ _ ?_ _ | refine Gr.alloc ?_ | refine Gr.drew ?_ | refine Gr.trans ?_ (by assumption))) <;> (first | (simp; done) | (simp; omega) | omega))
              obtain ⟨z0, z1, zf0, zf1, zl⟩ := HQ.out
              refine wpAnyH_ready (rs := [10]) (by kernel_rfl) (by simp) (AllReadyH.cons rfl (fun K hK => ?_) AllReadyH.nil)
              go_simp
              refine hK.out _ _ (by exact hold2a (by (with_reducible repeat' (first | exact Gr.refl _ | refine Gr.set ?_ _ ?_ _ | refine Gr.alloc ?_ | refine Gr.drew ?_ | refine Gr.trans ?_ (by assumption))) <;> (first | (simp; done) | (simp; omega) | omega)) b0 b1) (fun hHeldN => ?_)
              clear hHeld hK K
              have hHeld := hHeldN
              clear hHeldN
              refine wpAnyH_done (by kernel_rfl) ?_ _
              go_wp2_with fail
              go_meet
              exact ⟨_, _, _, _, _, rfl, (HQ.out.set2 _ _), ((RowAt.setFar (RowAt.gr hrA (by (with_reducible repeat' (first | exact Gr.refl _ | refine Gr.set ?_ _ ?_ _ | refine Gr.alloc ?_ | refine Gr.drew ?_ | refine Gr.trans ?_ (by assumption))) <;> (first | (simp; done) | (simp; omega) | omega))) _ _ (fun a e => by obtain ⟨q1, q2⟩ := hbA a e; (try simp at q2); (try simp); omega)).setFar _ _ (fun a e => by obtain ⟨q1, q2⟩ := hbA a e; (try simp at q2); (try simp); omega)), ((RowAt.setFar (RowAt.gr hrM (by (with_reducible repeat' (first | exact Gr.refl _ | refine Gr.set ?_ _ ?_ _ | refine Gr.alloc ?_ | refine Gr.drew ?_ | refine Gr.trans ?_ (by assumption))) <;> (first | (simp; done) | (simp; omega) | omega))) _ _ (fun a e => by obtain ⟨q1, q2⟩ := hbM a e; (try simp at q2); (try simp); omega)).setFar _ _ (fun a e => by obtain ⟨q1, q2⟩ := hbM a e; (try simp at q2); (try simp); omega)), (by (with_reducible repeat' (first | exact Gr.refl _ | refine Gr.set ?_ _ ?_ _ | refine Gr.alloc ?_ | refine Gr.drew ?_ | refine Gr.trans ?_ (by assumption))) <;> (first | (simp; done) | (simp; omega) | omega))⟩
          · skip
            go_simp
            refine hK.out _ _ (by exact hold2a (by (with_reducible repeat' (first | exact Gr.refl _ | refine Gr.set ?_ _ ?_ _ | refine Gr.alloc ?_ | refine Gr.drew ?_ | refine Gr.trans ?_ (by assumption))) <;> (first | (simp; done) | (simp; omega) | omega)) b0 b1) (fun hHeldN => ?_)
            clear hHeld hK K
            have hHeld := hHeldN
            clear hHeldN
            refine wpAnyH_ready (rs := [0, 4]) (by kernel_rfl) (by simp) (AllReadyH.cons rfl (fun K hK => ?_) (AllReadyH.cons rfl (fun K hK => ?_) AllReadyH.nil))
            · skip
              go_simp
              refine hK.out _ _ (by exact hold2a (by (with_reducible repeat' (first | exact Gr.refl _ | refine Gr.set ?_ _ ?_ _ | refine Gr.alloc ?_ | refine Gr.drew ?_ | refine Gr.trans ?_ (by assumption))) <;> (first | (simp; done) | (simp; omega) | omega)) b0 b1) (fun hHeldN => ?_)
              clear hHeld hK K
              have hHeld := hHeldN
              clear hHeldN
              refine wpAnyH_ready (rs := [3, 4]) (by kernel_rfl) (by simp) (AllReadyH.cons rfl (fun K hK => ?_) (AllReadyH.cons rfl (fun K hK => ?_) AllReadyH.nil))
              · skip
                refine step_copy rfl _ _ 22 rfl 31 iA (.agg #[.string ⟨#[]⟩, .int .i64 0, .int .i64 0, .int .i64 0, .int .i64 0, .int .i64 0, .int .i64 0]) 7 64 Try.underlying22 HIA.out.1 HIA.out.2.1 HIA.out.2.2.1 HIA.out.2.2.2 (by decide) _ rfl accC_len A adA capA rfl (RowAt.gr HL.out.a (HG1.out.trans hHeld.1)) (by have := HLA.out; omega) (by have := HLA.out; omega) (by first | (simp; done) | (simp; omega) | omega) ?_
                intro aA cA wA hrA hgA hbA
                have sA := hgA.size
                (try simp at sA)
                refine hK.out (Act.put _ (some 35) (.slice aA A.length cA)) _ (by exact hold2a (by (with_reducible repeat' (first | exact Gr.refl _ | refine Gr.set ?_ _ ?_ _ | refine Gr.alloc ?_ | refine Gr.drew ?_ | refine Gr.trans ?_ (by assumption))) <;> (first | (simp; done) | (simp; omega) | omega)) b0 b1) (fun hHeldN => ?_)
                clear hHeld hK K
                have hHeld := hHeldN
                clear hHeldN
                simp only [Act.put, List.setIfInBounds_toArray, List.set_cons_zero, List.set_cons_succ]
                refine wpAnyH_ready (rs := [4]) (by kernel_rfl) (by simp) (AllReadyH.cons rfl (fun K hK => ?_) AllReadyH.nil)
                go_simp
                refine hK.out _ _ (by exact hold2a (by (with_reducible repeat' (first | exact Gr.refl _ | refine Gr.set ?_ _ ?_ _ | refine Gr.alloc ?_ | refine Gr.drew ?_ | refine Gr.trans ?_ (by assumption))) <;> (first | (simp; done) | (simp; omega) | omega)) b0 b1) (fun hHeldN => ?_)
                clear hHeld hK K
                have hHeld := hHeldN
                clear hHeldN
                refine wpAnyH_ready (rs := [7]) (by kernel_rfl) (by simp) (AllReadyH.cons rfl (fun K hK => ?_) AllReadyH.nil)
                refine step_copy rfl _ _ 23 rfl 64 iM (.agg #[.string ⟨#[]⟩, .int .i64 0, .string ⟨#[]⟩, .int .i64 0, .int .i64 0]) 5 56 Try.underlying23 HIM.out.1 HIM.out.2.1 HIM.out.2.2.1 HIM.out.2.2.2 (by decide) _ rfl mkC_len M adM capM rfl (RowAt.gr HL.out.m (HG1.out.trans hHeld.1)) (by have := HLM.out; omega) (by have := HLM.out; omega) (by first | (simp; done) | (simp; omega) | omega) ?_
                intro aM cM wM hrM hgM hbM
                have sM := hgM.size
                (try simp at sM)
                refine hK.out (Act.put _ (some 39) (.slice aM M.length cM)) _ (by exact hold2a (by (with_reducible repeat' (first | exact Gr.refl _ | refine Gr.set ?_ _ ?_ _ | refine Gr.alloc ?_ | refine Gr.drew ?_ | refine Gr.trans ?_ (by assumption))) <;> (first | (simp; done) | (simp; omega) | omega)) b0 b1) (fun hHeldN => ?_)
                clear hHeld hK K
                have hHeld := hHeldN
                clear hHeldN
                simp only [Act.put, List.setIfInBounds_toArray, List.set_cons_zero, List.set_cons_succ]
                refine ty 8 40 hHeld ?_
                have HQ : Hid (TwoAt wM (w1.heap.size) (.slice none 0 0) (.slice none 0 0)) := (TwoAt.new w1 _ _ 25 (w1.heap.size) (by simp)).gr (by (with_reducible repeat' (first | exact Gr.refl _ | refine Gr.set ?_ _ ?_ _ | refine Gr.alloc ?_ | refine Gr.drew ?_ | refine Gr.trans ?_ (by assumption))) <;> (first | (simp; done) | (simp; omega) | omega))
                obtain ⟨z0, z1, zf0, zf1, zl⟩ := HQ.out
                refine wpAnyH_ready (rs := [10]) (by kernel_rfl) (by simp) (AllReadyH.cons rfl (fun K hK => ?_) AllReadyH.nil)
                go_simp
                refine hK.out _ _ (by exact hold2a (by (with_reducible repeat' (first | exact Gr.refl _ | refine Gr.set ?_ _ ?_ _ | refine Gr.alloc ?_ | refine Gr.drew ?_ | refine Gr.trans ?_ (by assumption))) <;> (first | (simp; done) | (simp; omega) | omega)) b0 b1) (fun hHeldN => ?_)
                clear hHeld hK K
                have hHeld := hHeldN
                clear hHeldN
                refine wpAnyH_done (by kernel_rfl) ?_ _
                go_wp2_with fail
                go_meet
                exact ⟨_, _, _, _, _, rfl, (HQ.out.set2 _ _), ((RowAt.setFar (RowAt.gr hrA (by (with_reducible repeat' (first | exact Gr.refl _ | refine Gr.set ?_ _ ?_ _ | refine Gr.alloc ?_ | refine Gr.drew ?_ | refine Gr.trans ?_ (by assumption))) <;> (first | (simp; done) | (simp; omega) | omega))) _ _ (fun a e => by obtain ⟨q1, q2⟩ := hbA a e; (try simp at q2); (try simp); omega)).setFar _ _ (fun a e => by obtain ⟨q1, q2⟩ := hbA a e; (try simp at q2); (try simp); omega)), ((RowAt.setFar (RowAt.gr hrM (by (with_reducible repeat' (first | exact Gr.refl _ | refine Gr.set ?_ _ ?_ _ | refine Gr.alloc ?_ | refine Gr.drew ?_ | refine Gr.trans ?_ (by assumption))) <;> (first | (simp; done) | (simp; omega) | omega))) _ _ (fun a e => by obtain ⟨q1, q2⟩ := hbM a e; (try simp at q2); (try simp); omega)).setFar _ _ (fun a e => by obtain ⟨q1, q2⟩ := hbM a e; (try simp at q2); (try simp); omega)), (by (with_reducible repeat' (first | exact Gr.refl _ | refine Gr.set ?_ _ ?_ _ | refine Gr.alloc ?_ | refine Gr.drew ?_ | refine Gr.trans ?_ (by assumption))) <;> (first | (simp; done) | (simp; omega) | omega))⟩
              · skip
                go_simp
                refine hK.out _ _ (by exact hold2a (by (with_reducible repeat' (first | exact Gr.refl _ | refine Gr.set ?_ _ ?_ _ | refine Gr.alloc ?_ | refine Gr.drew ?_ | refine Gr.trans ?_ (by assumption))) <;> (first | (simp; done) | (simp; omega) | omega)) b0 b1) (fun hHeldN => ?_)
                clear hHeld hK K
                have hHeld := hHeldN
                clear hHeldN
                refine wpAnyH_ready (rs := [3]) (by kernel_rfl) (by simp) (AllReadyH.cons rfl (fun K hK => ?_) AllReadyH.nil)
                refine step_copy rfl _ _ 22 rfl 31 iA (.agg #[.string ⟨#[]⟩, .int .i64 0, .int .i64 0, .int .i64 0, .int .i64 0, .int .i64 0, .int .i64 0]) 7 64 Try.underlying22 HIA.out.1 HIA.out.2.1 HIA.out.2.2.1 HIA.out.2.2.2 (by decide) _ rfl accC_len A adA capA rfl (RowAt.gr HL.out.a (HG1.out.trans hHeld.1)) (by have := HLA.out; omega) (by have := HLA.out; omega) (by first | (simp; done) | (simp; omega) | omega) ?_
                intro aA cA wA hrA hgA hbA
                have sA := hgA.size
                (try simp at sA)
                refine hK.out (Act.put _ (some 35) (.slice aA A.length cA)) _ (by exact hold2a (by (with_reducible repeat' (first | exact Gr.refl _ | refine Gr.set ?_ _ ?_ _ | refine Gr.alloc ?_ | refine Gr.drew ?_ | refine Gr.trans ?_ (by assumption))) <;> (first | (simp; done) | (simp; omega) | omega)) b0 b1) (fun hHeldN => ?_)
                clear hHeld hK K
                have hHeld := hHeldN
                clear hHeldN
                simp only [Act.put, List.setIfInBounds_toArray, List.set_cons_zero, List.set_cons_succ]
                refine wpAnyH_ready (rs := [7]) (by kernel_rfl) (by simp) (AllReadyH.cons rfl (fun K hK => ?_) AllReadyH.nil)
                refine step_copy rfl _ _ 23 rfl 64 iM (.agg #[.string ⟨#[]⟩, .int .i64 0, .string ⟨#[]⟩, .int .i64 0, .int .i64 0]) 5 56 Try.underlying23 HIM.out.1 HIM.out.2.1 HIM.out.2.2.1 HIM.out.2.2.2 (by decide) _ rfl mkC_len M adM capM rfl (RowAt.gr HL.out.m (HG1.out.trans hHeld.1)) (by have := HLM.out; omega) (by have := HLM.out; omega) (by first | (simp; done) | (simp; omega) | omega) ?_
                intro aM cM wM hrM hgM hbM
                have sM := hgM.size
                (try simp at sM)
                refine hK.out (Act.put _ (some 39) (.slice aM M.length cM)) _ (by exact hold2a (by (with_reducible repeat' (first | exact Gr.refl _ | refine Gr.set ?_ _ ?_ _ | refine Gr.alloc ?_ | refine Gr.drew ?_ | refine Gr.trans ?_ (by assumption))) <;> (first | (simp; done) | (simp; omega) | omega)) b0 b1) (fun hHeldN => ?_)
                clear hHeld hK K
                have hHeld := hHeldN
                clear hHeldN
                simp only [Act.put, List.setIfInBounds_toArray, List.set_cons_zero, List.set_cons_succ]
                refine ty 8 40 hHeld ?_
                have HQ : Hid (TwoAt wM (w1.heap.size) (.slice none 0 0) (.slice none 0 0)) := (TwoAt.new w1 _ _ 25 (w1.heap.size) (by simp)).gr (by (with_reducible repeat' (first | exact Gr.refl _ | refine Gr.set ?_ _ ?_ _ | refine Gr.alloc ?_ | refine Gr.drew ?_ | refine Gr.trans ?_ (by assumption))) <;> (first | (simp; done) | (simp; omega) | omega))
                obtain ⟨z0, z1, zf0, zf1, zl⟩ := HQ.out
                refine wpAnyH_ready (rs := [10]) (by kernel_rfl) (by simp) (AllReadyH.cons rfl (fun K hK => ?_) AllReadyH.nil)
                go_simp
                refine hK.out _ _ (by exact hold2a (by (with_reducible repeat' (first | exact Gr.refl _ | refine Gr.set ?_ _ ?_ _ | refine Gr.alloc ?_ | refine Gr.drew ?_ | refine Gr.trans ?_ (by assumption))) <;> (first | (simp; done) | (simp; omega) | omega)) b0 b1) (fun hHeldN => ?_)
                clear hHeld hK K
                have hHeld := hHeldN
                clear hHeldN
                refine wpAnyH_done (by kernel_rfl) ?_ _
                go_wp2_with fail
                go_meet
                exact ⟨_, _, _, _, _, rfl, (HQ.out.set2 _ _), ((RowAt.setFar (RowAt.gr hrA (by (with_reducible repeat' (first | exact Gr.refl _ | refine Gr.set ?_ _ ?_ _ | refine Gr.alloc ?_ | refine Gr.drew ?_ | refine Gr.trans ?_ (by assumption))) <;> (first | (simp; done) | (simp; omega) | omega))) _ _ (fun a e => by obtain ⟨q1, q2⟩ := hbA a e; (try simp at q2); (try simp); omega)).setFar _ _ (fun a e => by obtain ⟨q1, q2⟩ := hbA a e; (try simp at q2); (try simp); omega)), ((RowAt.setFar (RowAt.gr hrM (by (with_reducible repeat' (first | exact Gr.refl _ | refine Gr.set ?_ _ ?_ _ | refine Gr.alloc ?_ | refine Gr.drew ?_ | refine Gr.trans ?_ (by assumption))) <;> (first | (simp; done) | (simp; omega) | omega))) _ _ (fun a e => by obtain ⟨q1, q2⟩ := hbM a e; (try simp at q2); (try simp); omega)).setFar _ _ (fun a e => by obtain ⟨q1, q2⟩ := hbM a e; (try simp at q2); (try simp); omega)), (by (with_reducible repeat' (first | exact Gr.refl _ | refine Gr.set ?_ _ ?_ _ | refine Gr.alloc ?_ | refine Gr.drew ?_ | refine Gr.trans ?_ (by assumption))) <;> (first | (simp; done) | (simp; omega) | omega))⟩
            · skip
              go_simp
              refine hK.out _ _ (by exact hold2a (by (with_reducible repeat' (first | exact Gr.refl _ | refine Gr.set ?_ _ ?_ _ | refine Gr.alloc ?_ | refine Gr.drew ?_ | refine Gr.trans ?_ (by assumption))) <;> (first | (simp; done) | (simp; omega) | omega)) b0 b1) (fun hHeldN => ?_)
              clear hHeld hK K
              have hHeld := hHeldN
              clear hHeldN
              refine wpAnyH_ready (rs := [0]) (by kernel_rfl) (by simp) (AllReadyH.cons rfl (fun K hK => ?_) AllReadyH.nil)
              go_simp
              refine hK.out _ _ (by exact hold2a (by (with_reducible repeat' (first | exact Gr.refl _ | refine Gr.set ?_ _ ?_ _ | refine Gr.alloc ?_ | refine Gr.drew ?_ | refine Gr.trans ?_ (by assumption))) <;> (first | (simp; done) | (simp; omega) | omega)) b0 b1) (fun hHeldN => ?_)
              clear hHeld hK K
              have hHeld := hHeldN
              clear hHeldN
              refine wpAnyH_ready (rs := [3]) (by kernel_rfl) (by simp) (AllReadyH.cons rfl (fun K hK => ?_) AllReadyH.nil)
              refine step_copy rfl _ _ 22 rfl 31 iA (.agg #[.string ⟨#[]⟩, .int .i64 0, .int .i64 0, .int .i64 0, .int .i64 0, .int .i64 0, .int .i64 0]) 7 64 Try.underlying22 HIA.out.1 HIA.out.2.1 HIA.out.2.2.1 HIA.out.2.2.2 (by decide) _ rfl accC_len A adA capA rfl (RowAt.gr HL.out.a (HG1.out.trans hHeld.1)) (by have := HLA.out; omega) (by have := HLA.out; omega) (by first | (simp; done) | (simp; omega) | omega) ?_
              intro aA cA wA hrA hgA hbA
              have sA := hgA.size
              (try simp at sA)
              refine hK.out (Act.put _ (some 35) (.slice aA A.length cA)) _ (by exact hold2a (by (with_reducible repeat' (first | exact Gr.refl _ | refine Gr.set ?_ _ ?_ _ | refine Gr.alloc ?_ | refine Gr.drew ?_ | refine Gr.trans ?_ (by assumption))) <;> (first | (simp; done) | (simp; omega) | omega)) b0 b1) (fun hHeldN => ?_)
              clear hHeld hK K
              have hHeld := hHeldN
              clear hHeldN
              simp only [Act.put, List.setIfInBounds_toArray, List.set_cons_zero, List.set_cons_succ]
              refine wpAnyH_ready (rs := [7]) (by kernel_rfl) (by simp) (AllReadyH.cons rfl (fun K hK => ?_) AllReadyH.nil)
              refine step_copy rfl _ _ 23 rfl 64 iM (.agg #[.string ⟨#[]⟩, .int .i64 0, .string ⟨#[]⟩, .int .i64 0, .int .i64 0]) 5 56 Try.underlying23 HIM.out.1 HIM.out.2.1 HIM.out.2.2.1 HIM.out.2.2.2 (by decide) _ rfl mkC_len M adM capM rfl (RowAt.gr HL.out.m (HG1.out.trans hHeld.1)) (by have := HLM.out; omega) (by have := HLM.out; omega) (by first | (simp; done) | (simp; omega) | omega) ?_
              intro aM cM wM hrM hgM hbM
              have sM := hgM.size
              (try simp at sM)
              refine hK.out (Act.put _ (some 39) (.slice aM M.length cM)) _ (by exact hold2a (by (with_reducible repeat' (first | exact Gr.refl _ | refine Gr.set ?_ _ ?_ _ | refine Gr.alloc ?_ | refine Gr.drew ?_ | refine Gr.trans ?_ (by assumption))) <;> (first | (simp; done) | (simp; omega) | omega)) b0 b1) (fun hHeldN => ?_)
              clear hHeld hK K
              have hHeld := hHeldN
              clear hHeldN
              simp only [Act.put, List.setIfInBounds_toArray, List.set_cons_zero, List.set_cons_succ]
              refine ty 8 40 hHeld ?_
              have HQ : Hid (TwoAt wM (w1.heap.size) (.slice none 0 0) (.slice none 0 0)) := (TwoAt.new w1 _ _ 25 (w1.heap.size) (by simp)).gr (by (with_reducible repeat' (first | exact Gr.refl _ | refine Gr.set ?_ _ ?_ _ | refine Gr.alloc ?_ | refine Gr.drew ?_ | refine Gr.trans ?_ (by assumption))) <;> (first | (simp; done) | (simp; omega) | omega))
              obtain ⟨z0, z1, zf0, zf1, zl⟩ := HQ.out
              refine wpAnyH_ready (rs := [10]) (by kernel_rfl) (by simp) (AllReadyH.cons rfl (fun K hK => ?_) AllReadyH.nil)
              go_simp
              refine hK.out _ _ (by exact hold2a (by (with_reducible repeat' (first | exact Gr.refl _ | refine Gr.set ?_ _ ?_ _ | refine Gr.alloc ?_ | refine Gr.drew ?_ | refine Gr.trans ?_ (by assumption))) <;> (first | (simp; done) | (simp; omega) | omega)) b0 b1) (fun hHeldN => ?_)
              clear hHeld hK K
              have hHeld := hHeldN
              clear hHeldN
              refine wpAnyH_done (by kernel_rfl) ?_ _
              go_wp2_with fail
              go_meet
              exact ⟨_, _, _, _, _, rfl, (HQ.out.set2 _ _), ((RowAt.setFar (RowAt.gr hrA (by (with_reducible repeat' (first | exact Gr.refl _ | refine Gr.set ?_ _ ?_ _ | refine Gr.alloc ?_ | refine Gr.drew ?_ | refine Gr.trans ?_ (by assumption))) <;> (first | (simp; done) | (simp; omega) | omega))) _ _ (fun a e => by obtain ⟨q1, q2⟩ := hbA a e; (try simp at q2); (try simp); omega)).setFar _ _ (fun a e => by obtain ⟨q1, q2⟩ := hbA a e; (try simp at q2); (try simp); omega)), ((RowAt.setFar (RowAt.gr hrM (by (with_reducible repeat' (first | exact Gr.refl _ | refine Gr.set ?_ _ ?_ _ | refine Gr.alloc ?_ | refine Gr.drew ?_ | refine Gr.trans ?_ (by assumption))) <;> (first | (simp; done) | (simp; omega) | omega))) _ _ (fun a e => by obtain ⟨q1, q2⟩ := hbM a e; (try simp at q2); (try simp); omega)).setFar _ _ (fun a e => by obtain ⟨q1, q2⟩ := hbM a e; (try simp at q2); (try simp); omega)), (by (with_reducible repeat' (first | exact Gr.refl _ | refine Gr.set ?_ _ ?_ _ | refine Gr.alloc ?_ | refine Gr.drew ?_ | refine Gr.trans ?_ (by assumption))) <;> (first | (simp; done) | (simp; omega) | omega))⟩
        case rest =>
        obtain ⟨wx, rfl⟩ : ∃ x, x = wc := ⟨_, rfl⟩
        obtain ⟨Q, c1, e1, c2, e2, rfl, hq, hra, hrm, hgx⟩ := hcut
        have HQx : Hid (TwoAt wx Q (.slice c1 A.length e1) (.slice c2 M.length e2)) := hq
        have HBx : Hid (TwoAt wx w.heap.size (.slice adA A.length capA) (.slice adM M.length capM)) := HB1.out.gr hgx
        have HCx : Hid (∀ W, Gr wx W → W.cell? ⟨w.heap.size + 1, 0, none⟩ = some (.int .i64 kd) ∧ W.cell? ⟨w.heap.size + 1, 1, none⟩ = some (.string key) ∧ W.cell? ⟨w.heap.size + 1, 2, none⟩ = some (.int .i64 k) ∧ W.cell? ⟨w.heap.size + 1, 3, none⟩ = some (.string t) ∧ W.cell? ⟨w.heap.size + 1, 4, none⟩ = some (.int .i64 n) ∧ w.heap.size + 1 < W.heap.size) := fun W g => ⟨(hgx.trans g).keep k0, (hgx.trans g).keep k1, (hgx.trans g).keep k2, (hgx.trans g).keep k3, (hgx.trans g).keep k4, Nat.lt_of_lt_of_le kl (hgx.trans g).size⟩
        have HO : Hid (LedAt wx c1 c2 A M) := ⟨hra, hrm, HL.out.ra, HL.out.rm, HL.out.la, HL.out.lm⟩
        have HLx : Hid (LedAt wx adA adM A M) := HL.out.gr (HG1.out.trans hgx)
        have HGx : Hid (Gr w wx) := HG1.out.trans hgx
        clear hq hra hrm hgx k0 k1 k2 k3 k4 kl b0 b1 bl HB1 HG1 HC1
        obtain ⟨X1, Y1, er1, lx1, ly1, f1, g1⟩ := open_alike A M t n c1 e1 c2 e2 adA capA adM capM wx HO.out HLx.out HTS.out
        obtain ⟨X2, Y2, er2, lx2, ly2, f2, g2⟩ := do_alike A M key k n t c1 e1 c2 e2 adA capA adM capM wx HO.out HLx.out HKS.out HTS.out
        obtain ⟨X3, Y3, er3, lx3, ly3, f3, g3⟩ := endU_alike A M key c1 e1 c2 e2 adA capA adM capM wx HO.out HLx.out HKS.out
        obtain ⟨X4, Y4, er4, lx4, ly4, f4, g4⟩ := endK_alike A M key c1 e1 c2 e2 adA capA adM capM wx HO.out HLx.out HKS.out
        have HF1 := Lib.hid f1
        have HH1 := Lib.hid g1
        have HX1 := Lib.hid lx1
        have HY1 := Lib.hid ly1
        clear f1 g1 lx1 ly1
        have hee1 : (er1 == er1) = true := by simp
        have HF2 := Lib.hid f2
        have HH2 := Lib.hid g2
        have HX2 := Lib.hid lx2
        have HY2 := Lib.hid ly2
        clear f2 g2 lx2 ly2
        have hee2 : (er2 == er2) = true := by simp
        have HF3 := Lib.hid f3
        have HH3 := Lib.hid g3
        have HX3 := Lib.hid lx3
        have HY3 := Lib.hid ly3
        clear f3 g3 lx3 ly3
        have hee3 : (er3 == er3) = true := by simp
        have HF4 := Lib.hid f4
        have HH4 := Lib.hid g4
        have HX4 := Lib.hid lx4
        have HY4 := Lib.hid ly4
        clear f4 g4 lx4 ly4
        have hee4 : (er4 == er4) = true := by simp
        have HW0 : Hid (Gr wx wx) := Gr.refl _
        obtain ⟨q0, q1, _, _, ql⟩ := HQx.out.gr HW0.out
        obtain ⟨b0, b1, _, _, bl⟩ := HBx.out.gr HW0.out
        obtain ⟨k0, k1, k2, k3, k4, kl⟩ := HCx.out _ HW0.out
        go_wp2_with fail
        refine (HF1.out _ (HW0.out)).mono ?_
        rintro e u1 ⟨p1, r1, s1, t1, rfl, h1, h2, hg⟩
        have HW1 : Hid (Gr wx u1) := (HW0.out).trans hg
        have HP1 : Hid (AccsAt u1 p1 X1) := h1
        have HM1 : Hid (MksAt u1 s1 Y1) := h2
        have HV1 : Hid (Gr wx u1) := hg
        have HZ1 : Hid (TwoAt (u1.alloc (.cells #[.slice p1 X1.length r1, .slice s1 Y1.length t1] 25)) u1.heap.size (.slice p1 X1.length r1) (.slice s1 Y1.length t1)) := TwoAt.new _ _ _ _ _ rfl
        clear h1 h2 hg q0 q1 ql b0 b1 bl k0 k1 k2 k3 k4 kl
        obtain ⟨q0, q1, _, _, ql⟩ := HQx.out.gr HW1.out
        obtain ⟨b0, b1, _, _, bl⟩ := HBx.out.gr HW1.out
        obtain ⟨k0, k1, k2, k3, k4, kl⟩ := HCx.out _ HW1.out
        go_wp2_with fail
        refine (HH1.out _ (HW1.out.alloc)).mono ?_
        rintro e u2 ⟨p2, r2, s2, t2, rfl, h1, h2, hg⟩
        have HW2 : Hid (Gr wx u2) := (HW1.out.alloc).trans hg
        have HP2 : Hid (AccsAt u2 p2 X1) := h1
        have HM2 : Hid (MksAt u2 s2 Y1) := h2
        have HV2 : Hid (Gr (u1.alloc (.cells #[.slice p1 X1.length r1, .slice s1 Y1.length t1] 25)) u2) := hg
        have HZ2 : Hid (TwoAt (u2.alloc (.cells #[.slice p2 X1.length r2, .slice s2 Y1.length t2] 25)) u2.heap.size (.slice p2 X1.length r2) (.slice s2 Y1.length t2)) := TwoAt.new _ _ _ _ _ rfl
        clear h1 h2 hg q0 q1 ql b0 b1 bl k0 k1 k2 k3 k4 kl
        obtain ⟨q0, q1, _, _, ql⟩ := HQx.out.gr HW2.out
        obtain ⟨b0, b1, _, _, bl⟩ := HBx.out.gr HW2.out
        obtain ⟨k0, k1, k2, k3, k4, kl⟩ := HCx.out _ HW2.out
        go_wp2_with fail
        refine (HF2.out _ (HW2.out.alloc)).mono ?_
        rintro e u3 ⟨p3, r3, s3, t3, rfl, h1, h2, hg⟩
        have HW3 : Hid (Gr wx u3) := (HW2.out.alloc).trans hg
        have HP3 : Hid (AccsAt u3 p3 X2) := h1
        have HM3 : Hid (MksAt u3 s3 Y2) := h2
        have HV3 : Hid (Gr (u2.alloc (.cells #[.slice p2 X1.length r2, .slice s2 Y1.length t2] 25)) u3) := hg
        have HZ3 : Hid (TwoAt (u3.alloc (.cells #[.slice p3 X2.length r3, .slice s3 Y2.length t3] 25)) u3.heap.size (.slice p3 X2.length r3) (.slice s3 Y2.length t3)) := TwoAt.new _ _ _ _ _ rfl
        clear h1 h2 hg q0 q1 ql b0 b1 bl k0 k1 k2 k3 k4 kl
        obtain ⟨q0, q1, _, _, ql⟩ := HQx.out.gr HW3.out
        obtain ⟨b0, b1, _, _, bl⟩ := HBx.out.gr HW3.out
        obtain ⟨k0, k1, k2, k3, k4, kl⟩ := HCx.out _ HW3.out
        go_wp2_with fail
        refine (HH2.out _ (HW3.out.alloc)).mono ?_
        rintro e u4 ⟨p4, r4, s4, t4, rfl, h1, h2, hg⟩
        have HW4 : Hid (Gr wx u4) := (HW3.out.alloc).trans hg
        have HP4 : Hid (AccsAt u4 p4 X2) := h1
        have HM4 : Hid (MksAt u4 s4 Y2) := h2
        have HV4 : Hid (Gr (u3.alloc (.cells #[.slice p3 X2.length r3, .slice s3 Y2.length t3] 25)) u4) := hg
        have HZ4 : Hid (TwoAt (u4.alloc (.cells #[.slice p4 X2.length r4, .slice s4 Y2.length t4] 25)) u4.heap.size (.slice p4 X2.length r4) (.slice s4 Y2.length t4)) := TwoAt.new _ _ _ _ _ rfl
        clear h1 h2 hg q0 q1 ql b0 b1 bl k0 k1 k2 k3 k4 kl
        obtain ⟨q0, q1, _, _, ql⟩ := HQx.out.gr HW4.out
        obtain ⟨b0, b1, _, _, bl⟩ := HBx.out.gr HW4.out
        obtain ⟨k0, k1, k2, k3, k4, kl⟩ := HCx.out _ HW4.out
        go_wp2_with fail
        refine (HF3.out _ (HW4.out.alloc)).mono ?_
        rintro e u5 ⟨p5, r5, s5, t5, rfl, h1, h2, hg⟩
        have HW5 : Hid (Gr wx u5) := (HW4.out.alloc).trans hg
        have HP5 : Hid (AccsAt u5 p5 X3) := h1
        have HM5 : Hid (MksAt u5 s5 Y3) := h2
        have HV5 : Hid (Gr (u4.alloc (.cells #[.slice p4 X2.length r4, .slice s4 Y2.length t4] 25)) u5) := hg
        have HZ5 : Hid (TwoAt (u5.alloc (.cells #[.slice p5 X3.length r5, .slice s5 Y3.length t5] 25)) u5.heap.size (.slice p5 X3.length r5) (.slice s5 Y3.length t5)) := TwoAt.new _ _ _ _ _ rfl
        clear h1 h2 hg q0 q1 ql b0 b1 bl k0 k1 k2 k3 k4 kl
        obtain ⟨q0, q1, _, _, ql⟩ := HQx.out.gr HW5.out
        obtain ⟨b0, b1, _, _, bl⟩ := HBx.out.gr HW5.out
        obtain ⟨k0, k1, k2, k3, k4, kl⟩ := HCx.out _ HW5.out
        go_wp2_with fail
        refine (HH3.out _ (HW5.out.alloc)).mono ?_
        rintro e u6 ⟨p6, r6, s6, t6, rfl, h1, h2, hg⟩
        have HW6 : Hid (Gr wx u6) := (HW5.out.alloc).trans hg
        have HP6 : Hid (AccsAt u6 p6 X3) := h1
        have HM6 : Hid (MksAt u6 s6 Y3) := h2
        have HV6 : Hid (Gr (u5.alloc (.cells #[.slice p5 X3.length r5, .slice s5 Y3.length t5] 25)) u6) := hg
        have HZ6 : Hid (TwoAt (u6.alloc (.cells #[.slice p6 X3.length r6, .slice s6 Y3.length t6] 25)) u6.heap.size (.slice p6 X3.length r6) (.slice s6 Y3.length t6)) := TwoAt.new _ _ _ _ _ rfl
        clear h1 h2 hg q0 q1 ql b0 b1 bl k0 k1 k2 k3 k4 kl
        obtain ⟨q0, q1, _, _, ql⟩ := HQx.out.gr HW6.out
        obtain ⟨b0, b1, _, _, bl⟩ := HBx.out.gr HW6.out
        obtain ⟨k0, k1, k2, k3, k4, kl⟩ := HCx.out _ HW6.out
        go_wp2_with fail
        refine (HF4.out _ (HW6.out.alloc)).mono ?_
        rintro e u7 ⟨p7, r7, s7, t7, rfl, h1, h2, hg⟩
        have HW7 : Hid (Gr wx u7) := (HW6.out.alloc).trans hg
        have HP7 : Hid (AccsAt u7 p7 X4) := h1
        have HM7 : Hid (MksAt u7 s7 Y4) := h2
        have HV7 : Hid (Gr (u6.alloc (.cells #[.slice p6 X3.length r6, .slice s6 Y3.length t6] 25)) u7) := hg
        have HZ7 : Hid (TwoAt (u7.alloc (.cells #[.slice p7 X4.length r7, .slice s7 Y4.length t7] 25)) u7.heap.size (.slice p7 X4.length r7) (.slice s7 Y4.length t7)) := TwoAt.new _ _ _ _ _ rfl
        clear h1 h2 hg q0 q1 ql b0 b1 bl k0 k1 k2 k3 k4 kl
        obtain ⟨q0, q1, _, _, ql⟩ := HQx.out.gr HW7.out
        obtain ⟨b0, b1, _, _, bl⟩ := HBx.out.gr HW7.out
        obtain ⟨k0, k1, k2, k3, k4, kl⟩ := HCx.out _ HW7.out
        go_wp2_with fail
        refine (HH4.out _ (HW7.out.alloc)).mono ?_
        rintro e u8 ⟨p8, r8, s8, t8, rfl, h1, h2, hg⟩
        have HW8 : Hid (Gr wx u8) := (HW7.out.alloc).trans hg
        have HP8 : Hid (AccsAt u8 p8 X4) := h1
        have HM8 : Hid (MksAt u8 s8 Y4) := h2
        have HV8 : Hid (Gr (u7.alloc (.cells #[.slice p7 X4.length r7, .slice s7 Y4.length t7] 25)) u8) := hg
        have HZ8 : Hid (TwoAt (u8.alloc (.cells #[.slice p8 X4.length r8, .slice s8 Y4.length t8] 25)) u8.heap.size (.slice p8 X4.length r8) (.slice s8 Y4.length t8)) := TwoAt.new _ _ _ _ _ rfl
        clear h1 h2 hg q0 q1 ql b0 b1 bl k0 k1 k2 k3 k4 kl
        have HT8 : Hid (Gr u8 u8) := Gr.refl _
        have HE7 : Hid (Gr (u7.alloc (.cells #[.slice p7 X4.length r7, .slice s7 Y4.length t7] 25)) u8) := HV8.out.trans HT8.out
        have HT7 : Hid (Gr u7 u8) := ((Gr.refl _).alloc).trans HE7.out
        have HE6 : Hid (Gr (u6.alloc (.cells #[.slice p6 X3.length r6, .slice s6 Y3.length t6] 25)) u8) := HV7.out.trans HT7.out
        have HT6 : Hid (Gr u6 u8) := ((Gr.refl _).alloc).trans HE6.out
        have HE5 : Hid (Gr (u5.alloc (.cells #[.slice p5 X3.length r5, .slice s5 Y3.length t5] 25)) u8) := HV6.out.trans HT6.out
        have HT5 : Hid (Gr u5 u8) := ((Gr.refl _).alloc).trans HE5.out
        have HE4 : Hid (Gr (u4.alloc (.cells #[.slice p4 X2.length r4, .slice s4 Y2.length t4] 25)) u8) := HV5.out.trans HT5.out
        have HT4 : Hid (Gr u4 u8) := ((Gr.refl _).alloc).trans HE4.out
        have HE3 : Hid (Gr (u3.alloc (.cells #[.slice p3 X2.length r3, .slice s3 Y2.length t3] 25)) u8) := HV4.out.trans HT4.out
        have HT3 : Hid (Gr u3 u8) := ((Gr.refl _).alloc).trans HE3.out
        have HE2 : Hid (Gr (u2.alloc (.cells #[.slice p2 X1.length r2, .slice s2 Y1.length t2] 25)) u8) := HV3.out.trans HT3.out
        have HT2 : Hid (Gr u2 u8) := ((Gr.refl _).alloc).trans HE2.out
        have HE1 : Hid (Gr (u1.alloc (.cells #[.slice p1 X1.length r1, .slice s1 Y1.length t1] 25)) u8) := HV2.out.trans HT2.out
        have HT1 : Hid (Gr u1 u8) := ((Gr.refl _).alloc).trans HE1.out
        have HK0 : Hid (Gr (u8.alloc (.cells #[.slice p8 X4.length r8, .slice s8 Y4.length t8] 25)) (u8.alloc (.cells #[.slice p8 X4.length r8, .slice s8 Y4.length t8] 25))) := Gr.refl _
        obtain ⟨x0, x1, _, _, xl⟩ := HZ1.out.gr HE1.out
        obtain ⟨y0, y1, _, _, yl⟩ := HZ2.out.gr HE2.out
        go_wp2_with fail
        refine (same7_eq X1 Y1 p1 s1 p2 s2 r1 t1 r2 t2 _ (RowAt.gr HP1.out ((HT1.out).alloc.trans HK0.out)) (RowAt.gr HM1.out ((HT1.out).alloc.trans HK0.out)) (RowAt.gr HP2.out ((HT2.out).alloc.trans HK0.out)) (RowAt.gr HM2.out ((HT2.out).alloc.trans HK0.out)) HX1.out HY1.out).mono ?_
        rintro e v1 ⟨rfl, hg⟩
        have HK1 : Hid (Gr (u8.alloc (.cells #[.slice p8 X4.length r8, .slice s8 Y4.length t8] 25)) v1) := HK0.out.trans hg
        clear hg x0 x1 xl y0 y1 yl
        obtain ⟨x0, x1, _, _, xl⟩ := HZ3.out.gr ((HE3.out).alloc.trans HK1.out)
        obtain ⟨y0, y1, _, _, yl⟩ := HZ4.out.gr ((HE4.out).alloc.trans HK1.out)
        go_wp2_with fail
        refine (same7_eq X2 Y2 p3 s3 p4 s4 r3 t3 r4 t4 _ (RowAt.gr HP3.out ((HT3.out).alloc.trans HK1.out)) (RowAt.gr HM3.out ((HT3.out).alloc.trans HK1.out)) (RowAt.gr HP4.out ((HT4.out).alloc.trans HK1.out)) (RowAt.gr HM4.out ((HT4.out).alloc.trans HK1.out)) HX2.out HY2.out).mono ?_
        rintro e v2 ⟨rfl, hg⟩
        have HK2 : Hid (Gr (u8.alloc (.cells #[.slice p8 X4.length r8, .slice s8 Y4.length t8] 25)) v2) := HK1.out.trans hg
        clear hg x0 x1 xl y0 y1 yl
        obtain ⟨x0, x1, _, _, xl⟩ := HZ5.out.gr ((HE5.out).alloc.trans HK2.out)
        obtain ⟨y0, y1, _, _, yl⟩ := HZ6.out.gr ((HE6.out).alloc.trans HK2.out)
        go_wp2_with fail
        refine (same7_eq X3 Y3 p5 s5 p6 s6 r5 t5 r6 t6 _ (RowAt.gr HP5.out ((HT5.out).alloc.trans HK2.out)) (RowAt.gr HM5.out ((HT5.out).alloc.trans HK2.out)) (RowAt.gr HP6.out ((HT6.out).alloc.trans HK2.out)) (RowAt.gr HM6.out ((HT6.out).alloc.trans HK2.out)) HX3.out HY3.out).mono ?_
        rintro e v3 ⟨rfl, hg⟩
        have HK3 : Hid (Gr (u8.alloc (.cells #[.slice p8 X4.length r8, .slice s8 Y4.length t8] 25)) v3) := HK2.out.trans hg
        clear hg x0 x1 xl y0 y1 yl
        obtain ⟨x0, x1, _, _, xl⟩ := HZ7.out.gr ((HE7.out).alloc.trans HK3.out)
        obtain ⟨y0, y1, _, _, yl⟩ := HZ8.out.gr HK3.out
        go_wp2_with fail
        refine (same7_eq X4 Y4 p7 s7 p8 s8 r7 t7 r8 t8 _ (RowAt.gr HP7.out ((HT7.out).alloc.trans HK3.out)) (RowAt.gr HM7.out ((HT7.out).alloc.trans HK3.out)) (RowAt.gr HP8.out ((HT8.out).alloc.trans HK3.out)) (RowAt.gr HM8.out ((HT8.out).alloc.trans HK3.out)) HX4.out HY4.out).mono ?_
        rintro e v4 ⟨rfl, hg⟩
        have HK4 : Hid (Gr (u8.alloc (.cells #[.slice p8 X4.length r8, .slice s8 Y4.length t8] 25)) v4) := HK3.out.trans hg
        clear hg x0 x1 xl y0 y1 yl
        obtain ⟨x0, x1, _, _, xl⟩ := HQx.out.gr ((HW8.out).alloc.trans HK4.out)
        obtain ⟨y0, y1, _, _, yl⟩ := HBx.out.gr ((HW8.out).alloc.trans HK4.out)
        go_wp2_with fail
        refine (same7_eq A M c1 c2 adA adM e1 e2 capA capM _ (RowAt.gr HO.out.a ((HW8.out).alloc.trans HK4.out)) (RowAt.gr HO.out.m ((HW8.out).alloc.trans HK4.out)) (RowAt.gr HLx.out.a ((HW8.out).alloc.trans HK4.out)) (RowAt.gr HLx.out.m ((HW8.out).alloc.trans HK4.out)) HO.out.la HO.out.lm).mono ?_
        rintro e v5 ⟨rfl, hg⟩
        have HK5 : Hid (Gr (u8.alloc (.cells #[.slice p8 X4.length r8, .slice s8 Y4.length t8] 25)) v5) := HK4.out.trans hg
        clear hg x0 x1 xl y0 y1 yl
        go_wp2_with fail
        refine (HA.out _).mono ?_
        rintro e v6 ⟨rfl, hg⟩
        have HK6 : Hid (Gr w v6) := (((HGx.out.trans HW8.out).alloc).trans HK5.out).trans hg
        clear hg
        go_wp2
        go_ret
        exact ⟨rfl, HK6.out⟩
  · have HSM : Hid (∀ w', Calls Try.prog 8 #[.agg #[.slice adA A.length capA, .slice adM M.length capM]] w' fun e w2 => e = .returned (.bool false) ∧ Gr w' w2) := fun w' => small_big A M adA capA adM capM w' hbig
    clear h hbig hs ht
    go_enter Try.func4, Try.ntmps4
    go_wp2_with fail
    refine (HSM.out _).mono ?_
    rintro e w1 ⟨rfl, hg1⟩
    go_wp2_with fail
    refine (HA.out _).mono ?_
    rintro e w2 ⟨rfl, hg2⟩
    go_wp2
    go_ret
    exact ⟨rfl, (by repeat (first | exact Gr.refl _ | refine Gr.alloc ?_ | refine Gr.drew ?_ | refine Gr.trans ?_ (by assumption)))⟩
set_option maxRecDepth 100000 in
theorem open_cal {H : Type} {enc : TypeId × Value → H} {W : World} {base : Nat} {v : Value} {d : DataW H} {ps : List MemPlace}
    (hok : Value.okWide Try.prog W .any base 46 v) (h : DataW.Trod enc Try.prog W 0 (fun _ => true) true 46 v d ps) :
    ∃ q : Cal, v = .agg #[.int .i64 q.kd, .string q.key, .int .i64 q.k, .string q.t, .int .i64 q.n] ∧ inC q := by
  obtain ⟨cs, rfl, hsz⟩ := okWide_struct Try.underlying46 hok
  have hsz2 : cs.size = 5 := hsz.trans (by kernel_rfl)
  obtain ⟨l⟩ := cs
  match l, hsz2 with
  | [v0, v1, v2, v3, v4], _ =>
    obtain ⟨fuel, hf⟩ := h
    simp only [Value.cells] at hf
    obtain ⟨q, rfl, rfl, rfl, rfl, rfl, hq⟩ := trod_cal hf
    exact ⟨q, rfl, hq⟩
set_option maxRecDepth 100000 in
theorem ledgerDoes_lifted (os : Os) (started : os.Started) (H : Type) (enc : TypeId × Value → H) :
    ReturnsInHanded {} Try.checked os 4 .any (Rows.ledgerDoesSpec.pre6 enc Try.prog Try.f4 Rows.ledgerDoesRow.domain false) (Rows.ledgerDoesSpec.post enc Try.prog Try.f4 false true false false) := by
  refine returnsInHanded_of_change (C := Try.checked) own2 started (by kernel_rfl) Try.func4
    (ChangeSpec.witness6 (enc := enc) (C := Try.checked) false ⟨#[], #[.agg #[.slice none 0 0, .slice none 0 0], .agg #[.int .i64 0, .string ⟨#[]⟩, .int .i64 0, .string ⟨#[]⟩, .int .i64 0]], []⟩ 8 (by kernel_rfl) (by kernel_rfl) (by kernel_rfl) (by kernel_rfl)) ?_
  intro W base args ds gs before hval0 hW hcnd _
  have hval : ∀ (j : Nat) t v, Try.f4.params[j]? = some t → args[j]? = some v → Value.okWide Try.prog W .any base t v := hval0
  have hW' := hW
  obtain ⟨p, q, hA0, hV, rfl, hfz, hnd⟩ := hW
  have hA : DataW.TrodAll enc Try.prog W 0 (fun _ => true) true Try.f4.params.toList args.toList ds p := hA0
  rw [Try.params4] at hA hval
  obtain ⟨v0, v1, d0, d1, p0, p1, rfl, rfl, rfl, q0, q1⟩ := trodAll_two hA
  obtain ⟨rfl, rfl⟩ := trodVars_none hV
  have k0 := q0
  have lt0 : ∀ x ∈ p0, x.block < W.heap.size := by obtain ⟨m, hm⟩ := k0; exact DataW.trod_lt m _ _ _ hm
  have k1 := q1
  have lt1 : ∀ x ∈ p1, x.block < W.heap.size := by obtain ⟨m, hm⟩ := k1; exact DataW.trod_lt m _ _ _ hm
  obtain ⟨adA0, capA0, adM0, capM0, A0, M0, rfl, hL0⟩ := open_led (hval 0 25 v0 rfl rfl) q0
  obtain ⟨q1x, rfl, hC1⟩ := open_cal (hval 1 46 v1 rfl rfl) q1
  clear hA0 hval0
  refine (ledgerDoes_walk A0 M0 q1x.kd q1x.key q1x.k q1x.n q1x.t adA0 capA0 adM0 capM0 W hL0 hC1.2.1 hC1.2.2.2.1).mono fun e W' ⟨he, hg⟩ => ?_
  subst he
  exact ⟨_, rfl, _, _, _, [], _, [], hW', trodAll_mk1 (shut_bool Try.underlying4 _), trodAll_mk2 (Below.trod laidOut2 (by kernel_rfl) (of_decide_eq_true (by kernel_rfl)) k0 hg.below lt0) (Below.trod laidOut2 (by kernel_rfl) (of_decide_eq_true (by kernel_rfl)) k1 hg.below lt1), rfl, hg.below.frame _, fun h => by cases h⟩
theorem ledgerDoes_holds : Rows.LedgerDoesSaid :=
  OpenClaim.holds_of_wide 4 Try.f4 rfl rfl rfl rfl rfl rfl rfl ⟨rfl, rfl, rfl, rfl, rfl⟩ rfl rfl rfl rfl rfl (by kernel_rfl) Try.func4 (by kernel_rfl)
    (of_decide_eq_true (by kernel_rfl)) (by unfold Func.isWrapper; first | (rw [if_pos (by decide +kernel)]; kernel_rfl) | (rw [if_neg (by decide +kernel)]; exact ⟨rfl, rfl⟩))
    (fun os started H enc _ => ledgerDoes_lifted os started H enc)
end Go.Proofs.Ytgidkmipecfjhaa
