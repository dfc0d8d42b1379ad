/- For every input the law LedgerOnce answers true: what is done, undone or kept again changes nothing, and each ledger that comes may be. -/
import Derived.Test.YtgidkmipecfjhaaTLLOnce23
import Derived.Deep.DeepCutAuto
namespace Go.Proofs.Ytgidkmipecfjhaa
open Go.ChangeShapes Go.WideShapes Go.ChangeAt Go.RowKit
open Led (Acc Mk)
def Off {α : Type} (g : Nat) (a : Option Addr) (L : List α) : Prop := L = [] ∨ ∀ p, a = some p → p.block ≠ g
theorem off_new {α : Type} {f : α → List Value} {c : Nat} (hc : ∀ x, (f x).length = c) (h0 : 0 < c) {w : World} {a : Option Addr} {L : List α} (h : RowAt f w a L) {g : Nat} (hg : w.heap.size ≤ g) : Off g a L := by
  cases L with
  | nil => exact Or.inl rfl
  | cons x t =>
    right
    intro p hp
    have hl : 0 < ((x :: t).flatMap f).length := by rw [flat_len hc]; simp; omega
    obtain ⟨b, off, e, hb, _⟩ := h 0 _ (List.getElem?_eq_getElem hl)
    rw [hp] at e
    cases e
    show b ≠ g
    omega
theorem off_fr {α : Type} {g : Nat} {w : World} {o a : Option Addr} {L L' : List α} (h : Off g o L) (hf : Fr w o a L L') (hg : g < w.heap.size) : Off g a L' := by
  rcases hf with ⟨rfl, rfl⟩ | hf
  · exact h
  · exact Or.inr fun p hp => by have := hf p hp; omega
theorem RowAt.setOff {α : Type} {f : α → List Value} {w : World} {a : Option Addr} {L : List α} (h : RowAt f w a L) (p : Addr) (v : Value) (ho : Off p.block a L) : RowAt f (w.setCell p v) a L := by
  rcases ho with rfl | ho
  · exact RowAt.nil
  · exact h.setFar p v fun q hq => fun e => ho q hq e.symm
theorem hold7o {a b : World} (g : Gr a b) {q0 q1 q2 q3 q4 q5 q6 : Addr} {v0 v1 v2 v3 v4 v5 v6 : Value} (h0 : a.cell? q0 = some v0) (h1 : a.cell? q1 = some v1) (h2 : a.cell? q2 = some v2) (h3 : a.cell? q3 = some v3) (h4 : a.cell? q4 = some v4) (h5 : a.cell? q5 = some v5) (h6 : a.cell? q6 = some v6) :
    Gr a b ∧ b.cell? q0 = some v0 ∧ b.cell? q1 = some v1 ∧ b.cell? q2 = some v2 ∧ b.cell? q3 = some v3 ∧ b.cell? q4 = some v4 ∧ b.cell? q5 = some v5 ∧ b.cell? q6 = some v6 :=
  ⟨g, g.keep h0, g.keep h1, g.keep h2, g.keep h3, g.keep h4, g.keep h5, g.keep h6⟩
abbrev DoesAt (W : World) (a1 : Option Addr) (c1 : Nat) (a2 : Option Addr) (c2 : Nat) (A : List Acc) (M : List Mk) (q : Cal) (A' : List Acc) (M' : List Mk) (ok : Bool) : Prop :=
  ∀ w', Gr W w' → Calls Try.prog 27 #[.agg #[.slice a1 A.length c1, .slice a2 M.length c2], .agg #[.int .i64 q.kd, .string q.key, .int .i64 q.k, .string q.t, .int .i64 q.n]] w' fun e w2 => ∃ b1 d1 b2 d2, e = .returned (.tuple #[.agg #[.slice b1 A'.length d1, .slice b2 M'.length d2], .bool ok]) ∧ AccsAt w2 b1 A' ∧ MksAt w2 b2 M' ∧ Fr w' a1 b1 A A' ∧ Fr w' a2 b2 M M' ∧ Gr w' w2
theorem does_at {W : World} {a1 : Option Addr} {c1 : Nat} {a2 : Option Addr} {c2 : Nat} {A : List Acc} {M : List Mk} {q : Cal} (h : LedAt W a1 a2 A M) (hq : inC q) : DoesAt W a1 c1 a2 c2 A M q (stA A M q) (stM A M q) (decide (stE A M q = 0)) := fun w' g =>
  does_any A M q a1 c1 a2 c2 w' (h.gr g) hq.2.1 hq.2.2.2.1
set_option maxHeartbeats 8000000 in
set_option maxRecDepth 100000 in
theorem ledgerOnce_walk (T : List Cal) (ad : Option Addr) (cap : Nat) (w : World) (hA : CalsAt w ad T) (hn : T.length ≤ 9223372036854775807) (hT : ∀ q ∈ T, inC q) :
    Calls Try.prog 5 #[.slice ad T.length cap] w fun e w' => e = .returned (.bool true) ∧ Gr w w' := by
  have HA : Hid (∀ w', Calls Try.prog 9 #[] w' fun e w2 => e = .returned (.bool true) ∧ Gr w' w2) := fun w' => awake_any w'
  have HF := few_any T ad cap w hA hn
  generalize (decide (T.length ≤ 120) && T.all (fun q => decide (q.key.size ≤ 1000))) = fb at HF
  have HAA : Hid (CalsAt w ad T) := hA
  have HT : Hid (∀ q ∈ T, inC q) := hT
  clear hA hT
  cases fb with
  | false =>
    have HFF : Hid (Calls Try.prog 26 #[.slice ad T.length cap] w fun e w' => e = .returned (.bool false) ∧ Gr w w') := HF
    clear HF
    go_enter Try.func5, Try.ntmps5
    go_wp2_with fail
    refine HFF.out.mono ?_
    rintro e w1 ⟨rfl, hg1⟩
    go_wp2_with fail
    refine (HA.out _).mono ?_
    rintro e w2 ⟨rfl, hg2⟩
    go_wp2
    go_ret
    exact ⟨rfl, (by repeat (first | exact Gr.refl _ | refine Gr.alloc ?_ | refine Gr.drew ?_ | refine Gr.trans ?_ (by assumption)))⟩
  | true =>
    have HFF : Hid (Calls Try.prog 26 #[.slice ad T.length cap] w fun e w' => e = .returned (.bool true) ∧ Gr w w') := HF
    clear HF
    go_enter Try.func5, Try.ntmps5
    go_wp2_with fail
    refine HFF.out.mono ?_
    rintro e w1 ⟨rfl, hg1⟩
    have HG1 : Hid (Gr w w1) := hg1
    have hw1 : w.heap.size ≤ w1.heap.size := hg1.size
    clear hg1 HFF
    go_wp2
    go_loopw [4] (fun ix wr => ∃ (k : Nat) (A : List Acc) (M : List Mk) (a1 : Option Addr) (c1 : Nat) (a2 : Option Addr) (c2 : Nat), k ≤ T.length ∧ ix = .int .i64 k ∧ Led.May A M ∧ AccsAt wr a1 A ∧ MksAt wr a2 M ∧ TwoAt wr w1.heap.size (.slice a1 A.length c1) (.slice a2 M.length c2) ∧ Off w1.heap.size a1 A ∧ Off w1.heap.size a2 M ∧ Gr w wr)
      (fun ix _ => T.length - (intOf ix).toNat)
    case atStart => exact ⟨0, [], [], none, 0, none, 0, by omega, rfl, (Led.may_iff _ _).1 (by decide +kernel), RowAt.nil, RowAt.nil, TwoAt.new w1 _ _ _ _ rfl, Or.inl rfl, Or.inl rfl, HG1.out.alloc⟩
    case round =>
      clear HG1
      obtain ⟨k, A, M, a1, c1, a2, c2, hk, rfl, hmay, hr1, hr2, hbx, ho1, ho2, hg⟩ := hrel
      have HGW : Hid (Gr w wr) := hg
      have HB : Hid (TwoAt wr w1.heap.size (.slice a1 A.length c1) (.slice a2 M.length c2)) := hbx
      have HM : Hid (Led.May A M) := hmay
      have HR1 : Hid (AccsAt wr a1 A) := hr1
      have HR2 : Hid (MksAt wr a2 M) := hr2
      have HO1 : Hid (Off w1.heap.size a1 A) := ho1
      have HO2 : Hid (Off w1.heap.size a2 M) := ho2
      clear hg hbx hmay hr1 hr2 ho1 ho2
      by_cases hlt : k < T.length
      · obtain ⟨bb, off, rfl, hbl, e0, e1, e2, e3, e4⟩ := HAA.out k hlt
        have hq := HT.out T[k] (List.getElem_mem hlt)
        obtain ⟨q, hqe⟩ : ∃ q, T[k] = q := ⟨_, rfl⟩
        rw [hqe] at e0 e1 e2 e3 e4 hq
        have HD : Hid (DoesAt wr a1 c1 a2 c2 A M q (stA A M q) (stM A M q) (decide (stE A M q = 0))) := does_at (led_of HM.out HR1.out HR2.out) hq
        have HMM : Hid (Led.May (stA A M q) (stM A M q)) := st_may HM.out q
        have HAG : Hid (decide (stE A M q = 0) = true → q.kd ≠ 0 → ∀ (W : World) (b1 : Option Addr) (d1 : Nat) (b2 : Option Addr) (d2 : Nat), AccsAt W b1 (stA A M q) → MksAt W b2 (stM A M q) → DoesAt W b1 d1 b2 d2 (stA A M q) (stM A M q) q (stA A M q) (stM A M q) true) := by
          intro h1 h2 W b1 d1 b2 d2 h3 h4
          obtain ⟨x1, x2, x3⟩ := st_again (of_decide_eq_true h1) h2
          have := does_at (c1 := d1) (c2 := d2) (led_of HMM.out h3 h4) hq
          rw [x2, x3, decide_eq_true x1] at this
          exact this
        generalize stA A M q = A' at *
        generalize stM A M q = M' at *
        generalize decide (stE A M q = 0) = ok at *
        have hki : (k : Int) < (T.length : Int) := by omega
        have d0 := HGW.out.keep e0
        have d1 := HGW.out.keep e1
        have d2 := HGW.out.keep e2
        have d3 := HGW.out.keep e3
        have d4 := HGW.out.keep e4
        have hbw : bb < wr.heap.size := Nat.lt_of_lt_of_le hbl HGW.out.size
        clear hqe e0 e1 e2 e3 e4 hq
        obtain ⟨x0, x1, xf0, xf1, xl⟩ := HB.out
        go_upto_region 7 with fail
        go_cut [5, 6] (fun sp se wx => ∃ (Q : Nat) (b1 : Option Addr) (s1 : Nat) (b2 : Option Addr) (s2 : Nat), sp = .pointer (some ⟨Q, 0, none⟩) ∧ se = .bool ok ∧ wr.heap.size ≤ Q ∧ TwoAt wx Q (.slice b1 A'.length s1) (.slice b2 M'.length s2) ∧ AccsAt wx b1 A' ∧ MksAt wx b2 M' ∧ Off w1.heap.size b1 A' ∧ Off w1.heap.size b2 M' ∧ Gr wr wx)
        case first =>
          refine wp_region_held_drew (S := (fun w' => Gr wr w' ∧ w'.cell? ⟨w1.heap.size, 0, none⟩ = some (.slice a1 A.length c1) ∧ w'.cell? ⟨w1.heap.size, 1, none⟩ = some (.slice a2 M.length c2) ∧ w'.cell? ⟨bb, off + k * 5, none⟩ = some (.int .i64 q.kd) ∧ w'.cell? ⟨bb, off + k * 5 + 1, none⟩ = some (.string q.key) ∧ w'.cell? ⟨bb, off + k * 5 + 2, none⟩ = some (.int .i64 q.k) ∧ w'.cell? ⟨bb, off + k * 5 + 3, none⟩ = some (.string q.t) ∧ w'.cell? ⟨bb, off + k * 5 + 4, none⟩ = some (.int .i64 q.n))) (by kernel_rfl) (by exact hold7o (by (with_reducible repeat' (first | exact Gr.refl _ | refine Gr.set ?_ _ ?_ _ | refine Gr.alloc ?_ | refine Gr.drew ?_ | refine Gr.trans ?_ (by assumption))) <;> (first | (simp; done) | (simp; omega) | omega)) x0 x1 d0 d1 d2 d3 d4) (fun hHeld => ?_)
          refine ty 0 21 hHeld ?_
          refine ty 1 22 hHeld ?_
          refine ty 2 23 hHeld ?_
          refine ty 3 24 hHeld ?_
          refine ty 4 25 hHeld ?_
          refine wpAnyH_ready (rs := [5, 9]) (by kernel_rfl) (by simp) (AllReadyH.cons rfl (fun K hK => ?_) (AllReadyH.cons rfl (fun K hK => ?_) AllReadyH.nil))
          · skip
            go_simp
            (go_at_call 27; refine (HD.out _ (by (with_reducible repeat' (first | exact Gr.refl _ | refine Gr.set ?_ _ ?_ _ | refine Gr.alloc ?_ | refine Gr.drew ?_ | refine Gr.trans ?_ (by assumption))) <;> (first | (simp; done) | (simp; omega) | omega))).mono ?_; rintro e wn ⟨b1, s1, b2, s2, rfl, hi1, hi2, hf1, hf2, hgn⟩; have hzn := hgn.size; simp at hzn; have HI1 : Hid (AccsAt wn b1 A') := hi1; have HI2 : Hid (MksAt wn b2 M') := hi2; have HF1 : Hid (Fr _ a1 b1 A A') := hf1; have HF2 : Hid (Fr _ a2 b2 M M') := hf2; clear hi1 hi2 hf1 hf2)
            (try go_wp2_with fail)
            refine hK.out _ _ (by exact hold7o (by (with_reducible repeat' (first | exact Gr.refl _ | refine Gr.set ?_ _ ?_ _ | refine Gr.alloc ?_ | refine Gr.drew ?_ | refine Gr.trans ?_ (by assumption))) <;> (first | (simp; done) | (simp; omega) | omega)) x0 x1 d0 d1 d2 d3 d4) (fun hHeldN => ?_)
            clear hHeld hK K
            have hHeld := hHeldN
            clear hHeldN
            refine ty 6 20 hHeld ?_
            refine ty 7 27 hHeld ?_
            refine ty 8 28 hHeld ?_
            refine wpAnyH_ready (rs := [9]) (by kernel_rfl) (by simp) (AllReadyH.cons rfl (fun K hK => ?_) AllReadyH.nil)
            go_simp
            refine hK.out _ _ (by exact hold7o (by (with_reducible repeat' (first | exact Gr.refl _ | refine Gr.set ?_ _ ?_ _ | refine Gr.alloc ?_ | refine Gr.drew ?_ | refine Gr.trans ?_ (by assumption))) <;> (first | (simp; done) | (simp; omega) | omega)) x0 x1 d0 d1 d2 d3 d4) (fun hHeldN => ?_)
            clear hHeld hK K
            have hHeld := hHeldN
            clear hHeldN
            refine wpAnyH_ready (rs := [10]) (by kernel_rfl) (by simp) (AllReadyH.cons rfl (fun K hK => ?_) AllReadyH.nil)
            go_simp
            refine hK.out _ _ (by exact hold7o (by (with_reducible repeat' (first | exact Gr.refl _ | refine Gr.set ?_ _ ?_ _ | refine Gr.alloc ?_ | refine Gr.drew ?_ | refine Gr.trans ?_ (by assumption))) <;> (first | (simp; done) | (simp; omega) | omega)) x0 x1 d0 d1 d2 d3 d4) (fun hHeldN => ?_)
            clear hHeld hK K
            have hHeld := hHeldN
            clear hHeldN
            refine ty 11 6 hHeld ?_
            refine wpAnyH_done (by kernel_rfl) ?_ _
            go_wp2_with fail
            go_meet
            exact ⟨_, b1, s1, b2, s2, rfl, rfl, by omega, TwoAt.new wn _ _ _ _ rfl, RowAt.alloc HI1.out, RowAt.alloc HI2.out, off_fr HO1.out HF1.out (by simp; omega), off_fr HO2.out HF2.out (by simp; omega), (by (with_reducible repeat' (first | exact Gr.refl _ | refine Gr.set ?_ _ ?_ _ | refine Gr.alloc ?_ | refine Gr.drew ?_ | refine Gr.trans ?_ (by assumption))) <;> (first | (simp; done) | (simp; omega) | omega))⟩
          · skip
            go_simp
            refine hK.out _ _ (by exact hold7o (by (with_reducible repeat' (first | exact Gr.refl _ | refine Gr.set ?_ _ ?_ _ | refine Gr.alloc ?_ | refine Gr.drew ?_ | refine Gr.trans ?_ (by assumption))) <;> (first | (simp; done) | (simp; omega) | omega)) x0 x1 d0 d1 d2 d3 d4) (fun hHeldN => ?_)
            clear hHeld hK K
            have hHeld := hHeldN
            clear hHeldN
            refine wpAnyH_ready (rs := [5]) (by kernel_rfl) (by simp) (AllReadyH.cons rfl (fun K hK => ?_) AllReadyH.nil)
            go_simp
            (go_at_call 27; refine (HD.out _ (by (with_reducible repeat' (first | exact Gr.refl _ | refine Gr.set ?_ _ ?_ _ | refine Gr.alloc ?_ | refine Gr.drew ?_ | refine Gr.trans ?_ (by assumption))) <;> (first | (simp; done) | (simp; omega) | omega))).mono ?_; rintro e wn ⟨b1, s1, b2, s2, rfl, hi1, hi2, hf1, hf2, hgn⟩; have hzn := hgn.size; simp at hzn; have HI1 : Hid (AccsAt wn b1 A') := hi1; have HI2 : Hid (MksAt wn b2 M') := hi2; have HF1 : Hid (Fr _ a1 b1 A A') := hf1; have HF2 : Hid (Fr _ a2 b2 M M') := hf2; clear hi1 hi2 hf1 hf2; have hbz := ((TwoAt.new wr _ _ _ _ rfl).gr (Gr.refl _).drew).gr hgn; have HBZ : Hid (TwoAt wn wr.heap.size _ _) := hbz; obtain ⟨z0, z1, zf0, zf1, zl⟩ := hbz)
            (try go_wp2_with fail)
            refine hK.out _ _ (by exact hold7o (by (with_reducible repeat' (first | exact Gr.refl _ | refine Gr.set ?_ _ ?_ _ | refine Gr.alloc ?_ | refine Gr.drew ?_ | refine Gr.trans ?_ (by assumption))) <;> (first | (simp; done) | (simp; omega) | omega)) x0 x1 d0 d1 d2 d3 d4) (fun hHeldN => ?_)
            clear hHeld hK K
            have hHeld := hHeldN
            clear hHeldN
            refine ty 6 20 hHeld ?_
            refine ty 7 27 hHeld ?_
            refine ty 8 28 hHeld ?_
            refine wpAnyH_ready (rs := [10]) (by kernel_rfl) (by simp) (AllReadyH.cons rfl (fun K hK => ?_) AllReadyH.nil)
            go_simp
            refine hK.out _ _ (by exact hold7o (by (with_reducible repeat' (first | exact Gr.refl _ | refine Gr.set ?_ _ ?_ _ | refine Gr.alloc ?_ | refine Gr.drew ?_ | refine Gr.trans ?_ (by assumption))) <;> (first | (simp; done) | (simp; omega) | omega)) x0 x1 d0 d1 d2 d3 d4) (fun hHeldN => ?_)
            clear hHeld hK K
            have hHeld := hHeldN
            clear hHeldN
            refine ty 11 6 hHeld ?_
            refine wpAnyH_done (by kernel_rfl) ?_ _
            go_wp2_with fail
            go_meet
            exact ⟨_, b1, s1, b2, s2, rfl, rfl, by omega, HBZ.out.set2 _ _, (RowAt.setOff HI1.out _ _ (off_fr (off_new accC_len (by decide) HR1.out (Nat.le_refl _)) HF1.out (by simp))).setOff _ _ (off_fr (off_new accC_len (by decide) HR1.out (Nat.le_refl _)) HF1.out (by simp)), (RowAt.setOff HI2.out _ _ (off_fr (off_new mkC_len (by decide) HR2.out (Nat.le_refl _)) HF2.out (by simp))).setOff _ _ (off_fr (off_new mkC_len (by decide) HR2.out (Nat.le_refl _)) HF2.out (by simp)), off_fr HO1.out HF1.out (by simp; omega), off_fr HO2.out HF2.out (by simp; omega), (by (with_reducible repeat' (first | exact Gr.refl _ | refine Gr.set ?_ _ ?_ _ | refine Gr.alloc ?_ | refine Gr.drew ?_ | refine Gr.trans ?_ (by assumption))) <;> (first | (simp; done) | (simp; omega) | omega))⟩
        case rest =>
        obtain ⟨wp, rfl⟩ : ∃ x, x = wc := ⟨_, rfl⟩
        obtain ⟨Q, b1, s1, b2, s2, rfl, rfl, hQ, hZ, hz1, hz2, hz3, hz4, hgc⟩ := hcut
        have HGP : Hid (Gr w wp) := HGW.out.trans hgc
        have HBP : Hid (TwoAt wp w1.heap.size (.slice a1 A.length c1) (.slice a2 M.length c2)) := HB.out.gr hgc
        have HZ : Hid (TwoAt wp Q (.slice b1 A'.length s1) (.slice b2 M'.length s2)) := hZ
        have HP1 : Hid (AccsAt wp b1 A') := hz1
        have HP2 : Hid (MksAt wp b2 M') := hz2
        have HO3 : Hid (Off w1.heap.size b1 A') := hz3
        have HO4 : Hid (Off w1.heap.size b2 M') := hz4
        have hQ2 : w1.heap.size < Q := by omega
        have d0 := hgc.keep d0
        have d1 := hgc.keep d1
        have d2 := hgc.keep d2
        have d3 := hgc.keep d3
        have d4 := hgc.keep d4
        have hbw : bb < wp.heap.size := Nat.lt_of_lt_of_le hbw hgc.size
        have HY : Hid (∀ w', Gr wp w' → Calls Try.prog 14 #[.agg #[.slice b1 A'.length s1, .slice b2 M'.length s2]] w' fun e w2 => e = .returned (.int .i64 0) ∧ Gr w' w2) := fun w' g => by
          have := ((led_of HMM.out HP1.out HP2.out).gr g).may s1 s2
          rw [mayL_yes ((Led.may_iff _ _).2 HMM.out)] at this
          exact this
        clear hgc hZ hz1 hz2 hz3 hz4 x0 x1 xf0 xf1 xl HD HGW HB HR1 HR2 HO1 HO2 HM
        obtain ⟨y0, y1, _, _, yl⟩ := HZ.out
        go_wp2_with fail
        refine (HY.out _ (Gr.refl _)).mono ?_
        rintro e w3 ⟨rfl, hg3⟩
        have HG3 : Hid (Gr w w3) := HGP.out.trans hg3
        have HB3 : Hid (TwoAt w3 w1.heap.size (.slice a1 A.length c1) (.slice a2 M.length c2)) := HBP.out.gr hg3
        have HZ3 : Hid (TwoAt w3 Q (.slice b1 A'.length s1) (.slice b2 M'.length s2)) := HZ.out.gr hg3
        have HP3 : Hid (AccsAt w3 b1 A') := RowAt.gr HP1.out hg3
        have HP4 : Hid (MksAt w3 b2 M') := RowAt.gr HP2.out hg3
        have d0 := hg3.keep d0
        have d1 := hg3.keep d1
        have d2 := hg3.keep d2
        have d3 := hg3.keep d3
        have d4 := hg3.keep d4
        have hbw : bb < w3.heap.size := Nat.lt_of_lt_of_le hbw hg3.size
        clear hg3 HGP HBP HZ HP1 HP2 HY y0 y1 yl
        obtain ⟨y0, y1, _, _, yl⟩ := HZ3.out
        have HEND : Hid (∀ W, Gr w3 W → (TwoAt ((W.setCell ⟨w1.heap.size, 0, none⟩ (.slice b1 A'.length s1)).setCell ⟨w1.heap.size, 1, none⟩ (.slice b2 M'.length s2)) w1.heap.size (.slice b1 A'.length s1) (.slice b2 M'.length s2)) ∧ AccsAt ((W.setCell ⟨w1.heap.size, 0, none⟩ (.slice b1 A'.length s1)).setCell ⟨w1.heap.size, 1, none⟩ (.slice b2 M'.length s2)) b1 A' ∧ MksAt ((W.setCell ⟨w1.heap.size, 0, none⟩ (.slice b1 A'.length s1)).setCell ⟨w1.heap.size, 1, none⟩ (.slice b2 M'.length s2)) b2 M' ∧ Gr w ((W.setCell ⟨w1.heap.size, 0, none⟩ (.slice b1 A'.length s1)).setCell ⟨w1.heap.size, 1, none⟩ (.slice b2 M'.length s2))) := fun W g =>
          ⟨(HB3.out.gr g).set2 _ _, ((RowAt.gr HP3.out g).setOff _ _ HO3.out).setOff _ _ HO3.out, ((RowAt.gr HP4.out g).setOff _ _ HO4.out).setOff _ _ HO4.out, ((HG3.out.trans g).set _ hw1 _).set _ hw1 _⟩
        by_cases hgo : ok = true ∧ q.kd ≠ 0
        · obtain ⟨rfl, hkd⟩ := hgo
          have HD2 : Hid (DoesAt w3 b1 s1 b2 s2 A' M' q A' M' true) := HAG.out rfl hkd w3 b1 s1 b2 s2 HP3.out HP4.out
          have hne : (q.kd != 0) = true := by simpa using hkd
          clear hkd HAG
          go_upto_region 11 with fail
          go_cut [7, 8] (fun sp se wx => ∃ (Q : Nat) (f1 : Option Addr) (t1 : Nat) (f2 : Option Addr) (t2 : Nat), sp = .pointer (some ⟨Q, 0, none⟩) ∧ se = .bool true ∧ w3.heap.size ≤ Q ∧ TwoAt wx Q (.slice f1 A'.length t1) (.slice f2 M'.length t2) ∧ AccsAt wx f1 A' ∧ MksAt wx f2 M' ∧ Gr w3 wx)
          case first =>
            refine wp_region_held_drew (S := (fun w' => Gr w3 w' ∧ w'.cell? ⟨Q, 0, none⟩ = some (.slice b1 A'.length s1) ∧ w'.cell? ⟨Q, 1, none⟩ = some (.slice b2 M'.length s2) ∧ w'.cell? ⟨bb, off + k * 5, none⟩ = some (.int .i64 q.kd) ∧ w'.cell? ⟨bb, off + k * 5 + 1, none⟩ = some (.string q.key) ∧ w'.cell? ⟨bb, off + k * 5 + 2, none⟩ = some (.int .i64 q.k) ∧ w'.cell? ⟨bb, off + k * 5 + 3, none⟩ = some (.string q.t) ∧ w'.cell? ⟨bb, off + k * 5 + 4, none⟩ = some (.int .i64 q.n))) (by kernel_rfl) (by exact hold7o (by (with_reducible repeat' (first | exact Gr.refl _ | refine Gr.set ?_ _ ?_ _ | refine Gr.alloc ?_ | refine Gr.drew ?_ | refine Gr.trans ?_ (by assumption))) <;> (first | (simp; done) | (simp; omega) | omega)) y0 y1 d0 d1 d2 d3 d4) (fun hHeld => ?_)
            refine ty 0 42 hHeld ?_
            refine ty 1 43 hHeld ?_
            refine ty 2 44 hHeld ?_
            refine ty 3 45 hHeld ?_
            refine ty 4 46 hHeld ?_
            refine wpAnyH_ready (rs := [5, 9]) (by kernel_rfl) (by simp) (AllReadyH.cons rfl (fun K hK => ?_) (AllReadyH.cons rfl (fun K hK => ?_) AllReadyH.nil))
            · skip
              go_simp
              (go_at_call 27; refine (HD2.out _ (by (with_reducible repeat' (first | exact Gr.refl _ | refine Gr.set ?_ _ ?_ _ | refine Gr.alloc ?_ | refine Gr.drew ?_ | refine Gr.trans ?_ (by assumption))) <;> (first | (simp; done) | (simp; omega) | omega))).mono ?_; rintro e wn ⟨f1, t1, f2, t2, rfl, hi1, hi2, hf1, hf2, hgn⟩; have hzn := hgn.size; simp at hzn; have HI1 : Hid (AccsAt wn f1 A') := hi1; have HI2 : Hid (MksAt wn f2 M') := hi2; have HF1 : Hid (Fr _ b1 f1 A' A') := hf1; have HF2 : Hid (Fr _ b2 f2 M' M') := hf2; clear hi1 hi2 hf1 hf2)
              (try go_wp2_with fail)
              refine hK.out _ _ (by exact hold7o (by (with_reducible repeat' (first | exact Gr.refl _ | refine Gr.set ?_ _ ?_ _ | refine Gr.alloc ?_ | refine Gr.drew ?_ | refine Gr.trans ?_ (by assumption))) <;> (first | (simp; done) | (simp; omega) | omega)) y0 y1 d0 d1 d2 d3 d4) (fun hHeldN => ?_)
              clear hHeld hK K
              have hHeld := hHeldN
              clear hHeldN
              refine ty 6 41 hHeld ?_
              refine ty 7 48 hHeld ?_
              refine ty 8 49 hHeld ?_
              refine wpAnyH_ready (rs := [9]) (by kernel_rfl) (by simp) (AllReadyH.cons rfl (fun K hK => ?_) AllReadyH.nil)
              go_simp
              refine hK.out _ _ (by exact hold7o (by (with_reducible repeat' (first | exact Gr.refl _ | refine Gr.set ?_ _ ?_ _ | refine Gr.alloc ?_ | refine Gr.drew ?_ | refine Gr.trans ?_ (by assumption))) <;> (first | (simp; done) | (simp; omega) | omega)) y0 y1 d0 d1 d2 d3 d4) (fun hHeldN => ?_)
              clear hHeld hK K
              have hHeld := hHeldN
              clear hHeldN
              refine wpAnyH_ready (rs := [10]) (by kernel_rfl) (by simp) (AllReadyH.cons rfl (fun K hK => ?_) AllReadyH.nil)
              go_simp
              refine hK.out _ _ (by exact hold7o (by (with_reducible repeat' (first | exact Gr.refl _ | refine Gr.set ?_ _ ?_ _ | refine Gr.alloc ?_ | refine Gr.drew ?_ | refine Gr.trans ?_ (by assumption))) <;> (first | (simp; done) | (simp; omega) | omega)) y0 y1 d0 d1 d2 d3 d4) (fun hHeldN => ?_)
              clear hHeld hK K
              have hHeld := hHeldN
              clear hHeldN
              refine ty 11 8 hHeld ?_
              refine wpAnyH_done (by kernel_rfl) ?_ _
              go_wp2_with fail
              go_meet
              exact ⟨_, f1, t1, f2, t2, rfl, rfl, by omega, TwoAt.new wn _ _ _ _ rfl, RowAt.alloc HI1.out, RowAt.alloc HI2.out, (by (with_reducible repeat' (first | exact Gr.refl _ | refine Gr.set ?_ _ ?_ _ | refine Gr.alloc ?_ | refine Gr.drew ?_ | refine Gr.trans ?_ (by assumption))) <;> (first | (simp; done) | (simp; omega) | omega))⟩
            · skip
              go_simp
              refine hK.out _ _ (by exact hold7o (by (with_reducible repeat' (first | exact Gr.refl _ | refine Gr.set ?_ _ ?_ _ | refine Gr.alloc ?_ | refine Gr.drew ?_ | refine Gr.trans ?_ (by assumption))) <;> (first | (simp; done) | (simp; omega) | omega)) y0 y1 d0 d1 d2 d3 d4) (fun hHeldN => ?_)
              clear hHeld hK K
              have hHeld := hHeldN
              clear hHeldN
              refine wpAnyH_ready (rs := [5]) (by kernel_rfl) (by simp) (AllReadyH.cons rfl (fun K hK => ?_) AllReadyH.nil)
              go_simp
              (go_at_call 27; refine (HD2.out _ (by (with_reducible repeat' (first | exact Gr.refl _ | refine Gr.set ?_ _ ?_ _ | refine Gr.alloc ?_ | refine Gr.drew ?_ | refine Gr.trans ?_ (by assumption))) <;> (first | (simp; done) | (simp; omega) | omega))).mono ?_; rintro e wn ⟨f1, t1, f2, t2, rfl, hi1, hi2, hf1, hf2, hgn⟩; have hzn := hgn.size; simp at hzn; have HI1 : Hid (AccsAt wn f1 A') := hi1; have HI2 : Hid (MksAt wn f2 M') := hi2; have HF1 : Hid (Fr _ b1 f1 A' A') := hf1; have HF2 : Hid (Fr _ b2 f2 M' M') := hf2; clear hi1 hi2 hf1 hf2; have hbz := ((TwoAt.new w3 _ _ _ _ rfl).gr (Gr.refl _).drew).gr hgn; have HBZ : Hid (TwoAt wn w3.heap.size _ _) := hbz; obtain ⟨z0, z1, zf0, zf1, zl⟩ := hbz)
              (try go_wp2_with fail)
              refine hK.out _ _ (by exact hold7o (by (with_reducible repeat' (first | exact Gr.refl _ | refine Gr.set ?_ _ ?_ _ | refine Gr.alloc ?_ | refine Gr.drew ?_ | refine Gr.trans ?_ (by assumption))) <;> (first | (simp; done) | (simp; omega) | omega)) y0 y1 d0 d1 d2 d3 d4) (fun hHeldN => ?_)
              clear hHeld hK K
              have hHeld := hHeldN
              clear hHeldN
              refine ty 6 41 hHeld ?_
              refine ty 7 48 hHeld ?_
              refine ty 8 49 hHeld ?_
              refine wpAnyH_ready (rs := [10]) (by kernel_rfl) (by simp) (AllReadyH.cons rfl (fun K hK => ?_) AllReadyH.nil)
              go_simp
              refine hK.out _ _ (by exact hold7o (by (with_reducible repeat' (first | exact Gr.refl _ | refine Gr.set ?_ _ ?_ _ | refine Gr.alloc ?_ | refine Gr.drew ?_ | refine Gr.trans ?_ (by assumption))) <;> (first | (simp; done) | (simp; omega) | omega)) y0 y1 d0 d1 d2 d3 d4) (fun hHeldN => ?_)
              clear hHeld hK K
              have hHeld := hHeldN
              clear hHeldN
              refine ty 11 8 hHeld ?_
              refine wpAnyH_done (by kernel_rfl) ?_ _
              go_wp2_with fail
              go_meet
              exact ⟨_, f1, t1, f2, t2, rfl, rfl, by omega, HBZ.out.set2 _ _, (RowAt.setOff HI1.out _ _ (off_fr (off_new accC_len (by decide) HP3.out (Nat.le_refl _)) HF1.out (by simp))).setOff _ _ (off_fr (off_new accC_len (by decide) HP3.out (Nat.le_refl _)) HF1.out (by simp)), (RowAt.setOff HI2.out _ _ (off_fr (off_new mkC_len (by decide) HP4.out (Nat.le_refl _)) HF2.out (by simp))).setOff _ _ (off_fr (off_new mkC_len (by decide) HP4.out (Nat.le_refl _)) HF2.out (by simp)), (by (with_reducible repeat' (first | exact Gr.refl _ | refine Gr.set ?_ _ ?_ _ | refine Gr.alloc ?_ | refine Gr.drew ?_ | refine Gr.trans ?_ (by assumption))) <;> (first | (simp; done) | (simp; omega) | omega))⟩
          case rest =>
          obtain ⟨wq, rfl⟩ : ∃ x, x = wc := ⟨_, rfl⟩
          obtain ⟨Q2, f1, t1, f2, t2, rfl, rfl, hQ3, hZ, hz1, hz2, hgc⟩ := hcut
          have HBQ : Hid (TwoAt wq w1.heap.size (.slice a1 A.length c1) (.slice a2 M.length c2)) := HB3.out.gr hgc
          have HS : Hid (∀ w', Gr wq w' → Calls Try.prog 25 #[.agg #[.slice f1 A'.length t1, .slice f2 M'.length t2], .agg #[.slice b1 A'.length s1, .slice b2 M'.length s2]] w' fun e w2 => e = .returned (.bool true) ∧ Gr w' w2) := fun w' g =>
            same7_eq A' M' f1 f2 b1 b2 t1 t2 s1 s2 w' (RowAt.gr hz1 g) (RowAt.gr hz2 g) (RowAt.gr (RowAt.gr HP3.out hgc) g) (RowAt.gr (RowAt.gr HP4.out hgc) g) (by have := HMM.out.la; omega) (by have := HMM.out.lm; omega)
          have HZQ : Hid (TwoAt wq Q (.slice b1 A'.length s1) (.slice b2 M'.length s2)) := HZ3.out.gr hgc
          have hg3q : Gr w3 wq := hgc
          clear y0 y1 yl
          obtain ⟨y0, y1, _, _, yl⟩ := HZQ.out
          obtain ⟨z0, z1, _, _, zl⟩ := hZ
          clear hgc hz1 hz2 d0 d1 d2 d3 d4 HD2 HB3 HZ3
          go_wp2_with fail
          refine (HS.out _ (Gr.refl _)).mono ?_
          rintro e w4 ⟨rfl, hg4⟩
          have HG4 : Hid (Gr w3 w4) := hg3q.trans hg4
          have HZ4 : Hid (TwoAt w4 Q (.slice b1 A'.length s1) (.slice b2 M'.length s2)) := HZQ.out.gr hg4
          have HB4 : Hid (TwoAt w4 w1.heap.size (.slice a1 A.length c1) (.slice a2 M.length c2)) := HBQ.out.gr hg4
          clear hg4 hg3q y0 y1 yl z0 z1 zl HZQ HBQ HS
          obtain ⟨y0, y1, _, _, yl⟩ := HZ4.out
          obtain ⟨x0, x1, xf0, xf1, xl⟩ := HB4.out
          go_wp2
          go_roundw
          case rel =>
            obtain ⟨r1, r2, r3, r4⟩ := HEND.out w4 HG4.out
            exact ⟨k + 1, A', M', b1, s1, b2, s2, by omega, by go_num, HMM.out, r2, r3, r1, HO3.out, HO4.out, r4⟩
          case measure => simp [intOf]; omega
        · obtain ⟨x0, x1, xf0, xf1, xl⟩ := HB3.out
          cases ok with
          | false =>
            clear hgo HAG
            go_wp2
            go_roundw
            case rel =>
              obtain ⟨r1, r2, r3, r4⟩ := HEND.out w3 (Gr.refl _)
              exact ⟨k + 1, A', M', b1, s1, b2, s2, by omega, by go_num, HMM.out, r2, r3, r1, HO3.out, HO4.out, r4⟩
            case measure => simp [intOf]; omega
          | true =>
            have hkd : q.kd = 0 := by
              by_cases h : q.kd = 0
              · exact h
              · exact absurd ⟨rfl, h⟩ hgo
            have hne : (q.kd != 0) = false := by simpa using hkd
            rw [hkd] at d0
            clear hgo HAG hkd
            go_wp2
            go_roundw
            case rel =>
              obtain ⟨r1, r2, r3, r4⟩ := HEND.out w3 (Gr.refl _)
              exact ⟨k + 1, A', M', b1, s1, b2, s2, by omega, by go_num, HMM.out, r2, r3, r1, HO3.out, HO4.out, r4⟩
            case measure => simp [intOf]; omega
      · have hki : ¬ (k : Int) < (T.length : Int) := by omega
        go_wp2_with fail
        refine (HA.out _).mono ?_
        rintro e w2 ⟨rfl, hg2⟩
        have HG2 : Hid (Gr w w2) := HGW.out.trans hg2
        clear hg2
        go_wp2
        go_ret
        exact ⟨rfl, HG2.out⟩
set_option maxRecDepth 100000 in
theorem ledgerOnce_lifted (os : Os) (started : os.Started) (H : Type) (enc : TypeId × Value → H) :
    ReturnsInHanded {} Try.checked os 5 .any (Rows.ledgerOnceSpec.pre6 enc Try.prog Try.f5 Rows.ledgerOnceRow.domain false) (Rows.ledgerOnceSpec.post enc Try.prog Try.f5 false true false false) := by
  refine returnsInHanded_of_change (C := Try.checked) own2 started (by kernel_rfl) Try.func5
    (ChangeSpec.witness6 (enc := enc) (C := Try.checked) false ⟨#[], #[.slice none 0 0], []⟩ 8 (by kernel_rfl) (by kernel_rfl) (by kernel_rfl) (by kernel_rfl)) ?_
  intro W base args ds gs before hval0 hW hcnd _
  have hval : ∀ (j : Nat) t v, Try.f5.params[j]? = some t → args[j]? = some v → Value.okWide Try.prog W .any base t v := hval0
  have hW' := hW
  obtain ⟨p, q, hA0, hV, rfl, hfz, hnd⟩ := hW
  have hA : DataW.TrodAll enc Try.prog W 0 (fun _ => true) true Try.f5.params.toList args.toList ds p := hA0
  rw [Try.params5] at hA hval
  obtain ⟨v0, d0, rfl, rfl, q0⟩ := trodAll_one hA
  obtain ⟨rfl, rfl⟩ := trodVars_none hV
  have k0 := q0
  have lt0 : ∀ x ∈ p, x.block < W.heap.size := by obtain ⟨m, hm⟩ := k0; exact DataW.trod_lt m _ _ _ hm
  obtain ⟨ad0, cap0, T0, rfl, hT0, hn0, hr0⟩ := open_calls (hval 0 57 v0 rfl rfl) q0
  clear hA0 hval0
  refine (ledgerOnce_walk T0 ad0 cap0 W hT0 hn0 hr0).mono fun e W' ⟨he, hg⟩ => ?_
  subst he
  exact ⟨_, rfl, _, _, _, [], _, [], hW', trodAll_mk1 (shut_bool Try.underlying4 _), trodAll_mk1 (Below.trod laidOut2 (by kernel_rfl) (of_decide_eq_true (by kernel_rfl)) k0 hg.below lt0), rfl, hg.below.frame _, fun h => by cases h⟩
theorem ledgerOnce_holds : Rows.LedgerOnceSaid :=
  OpenClaim.holds_of_wide 5 Try.f5 rfl rfl rfl rfl rfl rfl rfl ⟨rfl, rfl, rfl, rfl, rfl⟩ rfl rfl rfl rfl rfl (by kernel_rfl) Try.func5 (by kernel_rfl)
    (of_decide_eq_true (by kernel_rfl)) (by unfold Func.isWrapper; first | (rw [if_pos (by decide +kernel)]; kernel_rfl) | (rw [if_neg (by decide +kernel)]; exact ⟨rfl, rfl⟩))
    (fun os started H enc _ => ledgerOnce_lifted os started H enc)
end Go.Proofs.Ytgidkmipecfjhaa
