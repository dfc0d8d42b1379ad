/- What the proof is made of, part 24. -/
import Derived.Test.YtgidkmipecfjhaaTLLBack23
namespace Go.Proofs.Ytgidkmipecfjhaa
open Go.ChangeShapes Go.WideShapes Go.ChangeAt Go.RowKit
open Led (Acc Mk)
def fA (q : ByteArray × Int) : Acc := newA q.1 q.2
def fV (F : List (ByteArray × Int)) : List Value := (F.map fA).flatMap accC
theorem fV_app (F G : List (ByteArray × Int)) : fV (F ++ G) = fV F ++ fV G := by simp [fV]
theorem fV_one (F : List (ByteArray × Int)) : ∀ u ∈ fV F, u.oneCell' = true := acc_one _
theorem f_lit (w : World) (s : ByteArray) (n : Int) (t : TypeId) : ∀ j u, (fV [(s, n)])[j]? = some u → (w.alloc (.cells #[.string s, .int .i64 n, .int .i64 0, .int .i64 0, .int .i64 0, .int .i64 0, .int .i64 0] t)).cell? ((⟨w.heap.size, 0, none⟩ : Addr).add j) = some u := by
  intro j u hu
  have hj : j < 7 := by
    have := (List.getElem?_eq_some_iff.1 hu).1
    simpa [fV, fA, accC] using this
  rw [Addr.add_lit]
  match j, hj with
  | 0, _ => simp [fV, fA, newA, accC] at hu; subst hu; simp
  | 1, _ => simp [fV, fA, newA, accC] at hu; subst hu; simp
  | 2, _ => simp [fV, fA, newA, accC] at hu; subst hu; simp
  | 3, _ => simp [fV, fA, newA, accC] at hu; subst hu; simp
  | 4, _ => simp [fV, fA, newA, accC] at hu; subst hu; simp
  | 5, _ => simp [fV, fA, newA, accC] at hu; subst hu; simp
  | 6, _ => simp [fV, fA, newA, accC] at hu; subst hu; simp
def Apart (fv : Value) (a1 a2 : Option Addr) (A : List Acc) (M : List Mk) : Prop := ∀ g, fv.ownBlock = some g → Off g a1 A ∧ Off g a2 M
theorem RowAt.grown {α : Type} {f : α → List Value} {w w' : World} {ad : Option Addr} {L : List α} {r : Option Nat} (h : RowAt f w ad L) (k : w.grownBy w' r) (hr : ∀ g, r = some g → Off g ad L) : RowAt f w' ad L := by
  intro j u hu
  obtain ⟨b, off, e, hb, hc⟩ := h j u hu
  refine ⟨b, off, e, Nat.lt_of_lt_of_le hb k.size, k.cell hc ?_⟩
  intro e2
  rcases hr b e2.symm with h0 | h0
  · subst h0; simp at hu
  · exact h0 _ e rfl
theorem gr_grown {a b c : World} {r : Option Nat} (h : Gr a b) (k : b.grownBy c r) : a.grownBy c r := by
  have := h.size
  exact ⟨k.os.trans h.below.os, k.tape.trans h.below.tape, k.output.trans h.below.output, Nat.le_trans h.size k.size, fun i hi hne => (k.block i (by omega) hne).trans (h.below.block i hi)⟩
theorem gr_grown2 {a b : World} (r : Option Nat) (h : Gr a b) : a.grownBy b r := ⟨h.below.os, h.below.tape, h.below.output, h.size, fun i hi _ => h.below.block i hi⟩
structure OpI (w wr : World) (k : Nat) (A : List Acc) (M : List Mk) (F : List (ByteArray × Int)) (a1 : Option Addr) (c1 : Nat) (a2 : Option Addr) (c2 : Nat) (fv : Value) : Prop where
  may : Led.May A M
  bal : Bal A M F
  r1 : AccsAt wr a1 A
  r2 : MksAt wr a2 M
  bx : TwoAt wr (w.heap.size + 1) (.slice a1 A.length c1) (.slice a2 M.length c2)
  rs : TwoAt wr w.heap.size (.slice none 0 0) (.slice none 0 0)
  o1 : Off (w.heap.size + 1) a1 A
  o2 : Off (w.heap.size + 1) a2 M
  p1 : Off w.heap.size a1 A
  p2 : Off w.heap.size a2 M
  own : wr.ownsRow (w.heap.size + 2) 31 7 fv F.length (fV F)
  ap : Apart fv a1 a2 A M
  g : Gr w wr
def OpR (w : World) (e : Ending) (w' : World) : Prop := ∃ (A : List Acc) (M : List Mk) (F : List (ByteArray × Int)) (a1 : Option Addr) (c1 : Nat) (a2 : Option Addr) (c2 : Nat) (a3 : Option Addr) (c3 : Nat), e = .returned (.tuple #[.agg #[.slice a1 A.length c1, .slice a2 M.length c2], .slice a3 F.length c3]) ∧ Led.May A M ∧ Bal A M F ∧ AccsAt w' a1 A ∧ MksAt w' a2 M ∧ AccsAt w' a3 (F.map fA) ∧ Gr w w'
set_option maxHeartbeats 8000000 in
set_option maxRecDepth 100000 in
theorem opened_any (T : List Cal) (ad : Option Addr) (cap : Nat) (w : World) (hA : CalsAt w ad T) (hn : T.length ≤ 9223372036854775807) (hT : ∀ q ∈ T, inC q) :
    Calls Try.prog 28 #[.slice ad T.length cap] w fun e w' => OpR w e w' := by
  obtain ⟨i0, hi, hz0, hz1, hz2⟩ := info_parts infoAcc
  have HAA : Hid (CalsAt w ad T) := hA
  have HT : Hid (∀ q ∈ T, inC q) := hT
  have HI0 : Hid (OpI w ((w.alloc (.cells #[.slice none 0 0, .slice none 0 0] 25)).alloc (.cells #[.slice none 0 0, .slice none 0 0] 25)) 0 [] [] [] none 0 none 0 (.slice none 0 0)) :=
    ⟨(Led.may_iff _ _).1 (by decide +kernel), ⟨rfl, (fun q hq => by cases hq)⟩, RowAt.nil, RowAt.nil, TwoAt.new _ _ _ _ _ (by simp), (TwoAt.new w _ _ _ _ rfl).gr (Gr.refl _).alloc, Or.inl rfl, Or.inl rfl, Or.inl rfl, Or.inl rfl, World.ownsRow_nil _ _ _ _, (fun g e => by cases e), (Gr.refl _).alloc.alloc⟩
  clear hA hT
  go_enter Try.func28, Try.ntmps28
  go_wp2
  go_loopw [5, 6] (fun fv ix wr => ∃ (k : Nat) (A : List Acc) (M : List Mk) (F : List (ByteArray × Int)) (a1 : Option Addr) (c1 : Nat) (a2 : Option Addr) (c2 : Nat), k ≤ T.length ∧ ix = .int .i64 (k : Int) ∧ OpI w wr k A M F a1 c1 a2 c2 fv)
    (fun _ ix _ => T.length - (intOf ix).toNat)
  case atStart => exact ⟨0, [], [], [], none, 0, none, 0, by omega, rfl, HI0.out⟩
  case round =>
    obtain ⟨k, A, M, F, a1, c1, a2, c2, hk, rfl, hI⟩ := hrel
    have HI : Hid (OpI w wr k A M F a1 c1 a2 c2 u5) := hI
    clear hI HI0
    by_cases hlt : k < T.length
    · obtain ⟨bb, off, rfl, hbl, e0, e1, e2, e3, e4⟩ := HAA.out k hlt
      have hq := HT.out T[k] (List.getElem_mem hlt)
      obtain ⟨q, hqe⟩ : ∃ q, T[k] = q := ⟨_, rfl⟩
      rw [hqe] at e0 e1 e2 e3 e4 hq
      have HD : Hid (DoesAt wr a1 c1 a2 c2 A M q (stA A M q) (stM A M q) (decide (stE A M q = 0))) := does_at (led_of HI.out.may HI.out.r1 HI.out.r2) hq
      have HMM : Hid (Led.May (stA A M q) (stM A M q)) := st_may HI.out.may q
      have HBB : Hid (Bal (stA A M q) (stM A M q) (stF A M F q)) := bal_st HI.out.bal q
      have HST : Hid (stF A M F q = if decide (stE A M q = 0) = true ∧ q.kd = 0 then F ++ [(q.t, q.n)] else F) := by
        show _ = _
        unfold stF
        by_cases h : stE A M q = 0 <;> simp [h]
      generalize stA A M q = A' at *
      generalize stM A M q = M' at *
      generalize stF A M F q = F' at *
      generalize decide (stE A M q = 0) = ok at *
      have hki : (k : Int) < (T.length : Int) := by omega
      have d0 := HI.out.g.keep e0
      have d1 := HI.out.g.keep e1
      have d2 := HI.out.g.keep e2
      have d3 := HI.out.g.keep e3
      have d4 := HI.out.g.keep e4
      have hbw : bb < wr.heap.size := Nat.lt_of_lt_of_le hbl HI.out.g.size
      clear hqe e0 e1 e2 e3 e4 hq
      obtain ⟨x0, x1, xf0, xf1, xl⟩ := HI.out.bx
      go_upto_region 6 with fail
      go_cut [7, 8] (fun sp se wx => ∃ (Q : Nat) (b1 : Option Addr) (s1 : Nat) (b2 : Option Addr) (s2 : Nat), sp = .pointer (some ⟨Q, 0, none⟩) ∧ se = .bool ok ∧ wr.heap.size ≤ Q ∧ TwoAt wx Q (.slice b1 A'.length s1) (.slice b2 M'.length s2) ∧ AccsAt wx b1 A' ∧ MksAt wx b2 M' ∧ (∀ g, g < wr.heap.size → Off g a1 A → Off g b1 A') ∧ (∀ g, g < wr.heap.size → Off g a2 M → Off g b2 M') ∧ Gr wr wx)
      case first =>
        refine wp_region_held_drew (S := (fun w' => Gr wr w' ∧ w'.cell? ⟨(w.heap.size + 1), 0, none⟩ = some (.slice a1 A.length c1) ∧ w'.cell? ⟨(w.heap.size + 1), 1, none⟩ = some (.slice a2 M.length c2) ∧ w'.cell? ⟨bb, off + k * 5, none⟩ = some (.int .i64 q.kd) ∧ w'.cell? ⟨bb, off + k * 5 + 1, none⟩ = some (.string q.key) ∧ w'.cell? ⟨bb, off + k * 5 + 2, none⟩ = some (.int .i64 q.k) ∧ w'.cell? ⟨bb, off + k * 5 + 3, none⟩ = some (.string q.t) ∧ w'.cell? ⟨bb, off + k * 5 + 4, none⟩ = some (.int .i64 q.n))) (by kernel_rfl) (by exact hold7o (by (with_reducible repeat' (first | exact Gr.refl _ | refine Gr.set ?_ _ ?_ _ | refine Gr.alloc ?_ | refine Gr.drew ?_ | refine Gr.trans ?_ (by assumption))) <;> (first | (simp; done) | (simp; omega) | omega)) x0 x1 d0 d1 d2 d3 d4) (fun hHeld => ?_)
        refine ty 0 17 hHeld ?_
        refine ty 1 18 hHeld ?_
        refine ty 2 19 hHeld ?_
        refine ty 3 20 hHeld ?_
        refine ty 4 21 hHeld ?_
        refine wpAnyH_ready (rs := [5, 9]) (by kernel_rfl) (by simp) (AllReadyH.cons rfl (fun K hK => ?_) (AllReadyH.cons rfl (fun K hK => ?_) AllReadyH.nil))
        · skip
          go_simp
          (go_at_call 27; refine (HD.out _ (by (with_reducible repeat' (first | exact Gr.refl _ | refine Gr.set ?_ _ ?_ _ | refine Gr.alloc ?_ | refine Gr.drew ?_ | refine Gr.trans ?_ (by assumption))) <;> (first | (simp; done) | (simp; omega) | omega))).mono ?_; rintro e wn ⟨b1, s1, b2, s2, rfl, hi1, hi2, hf1, hf2, hgn⟩; have hzn := hgn.size; simp at hzn; have HI1 : Hid (AccsAt wn b1 A') := hi1; have HI2 : Hid (MksAt wn b2 M') := hi2; have HF1 : Hid (Fr _ a1 b1 A A') := hf1; have HF2 : Hid (Fr _ a2 b2 M M') := hf2; clear hi1 hi2 hf1 hf2)
          (try go_wp2_with fail)
          refine hK.out _ _ (by exact hold7o (by (with_reducible repeat' (first | exact Gr.refl _ | refine Gr.set ?_ _ ?_ _ | refine Gr.alloc ?_ | refine Gr.drew ?_ | refine Gr.trans ?_ (by assumption))) <;> (first | (simp; done) | (simp; omega) | omega)) x0 x1 d0 d1 d2 d3 d4) (fun hHeldN => ?_)
          clear hHeld hK K
          have hHeld := hHeldN
          clear hHeldN
          refine ty 6 16 hHeld ?_
          refine ty 7 23 hHeld ?_
          refine ty 8 24 hHeld ?_
          refine wpAnyH_ready (rs := [9]) (by kernel_rfl) (by simp) (AllReadyH.cons rfl (fun K hK => ?_) AllReadyH.nil)
          go_simp
          refine hK.out _ _ (by exact hold7o (by (with_reducible repeat' (first | exact Gr.refl _ | refine Gr.set ?_ _ ?_ _ | refine Gr.alloc ?_ | refine Gr.drew ?_ | refine Gr.trans ?_ (by assumption))) <;> (first | (simp; done) | (simp; omega) | omega)) x0 x1 d0 d1 d2 d3 d4) (fun hHeldN => ?_)
          clear hHeld hK K
          have hHeld := hHeldN
          clear hHeldN
          refine wpAnyH_ready (rs := [10]) (by kernel_rfl) (by simp) (AllReadyH.cons rfl (fun K hK => ?_) AllReadyH.nil)
          go_simp
          refine hK.out _ _ (by exact hold7o (by (with_reducible repeat' (first | exact Gr.refl _ | refine Gr.set ?_ _ ?_ _ | refine Gr.alloc ?_ | refine Gr.drew ?_ | refine Gr.trans ?_ (by assumption))) <;> (first | (simp; done) | (simp; omega) | omega)) x0 x1 d0 d1 d2 d3 d4) (fun hHeldN => ?_)
          clear hHeld hK K
          have hHeld := hHeldN
          clear hHeldN
          refine ty 11 8 hHeld ?_
          refine wpAnyH_done (by kernel_rfl) ?_ _
          go_wp2_with fail
          go_meet
          exact ⟨_, b1, s1, b2, s2, rfl, rfl, by omega, TwoAt.new wn _ _ _ _ rfl, RowAt.alloc HI1.out, RowAt.alloc HI2.out, (fun g hg h => off_fr h HF1.out (by simp; omega)), (fun g hg h => off_fr h HF2.out (by simp; omega)), (by (with_reducible repeat' (first | exact Gr.refl _ | refine Gr.set ?_ _ ?_ _ | refine Gr.alloc ?_ | refine Gr.drew ?_ | refine Gr.trans ?_ (by assumption))) <;> (first | (simp; done) | (simp; omega) | omega))⟩
        · skip
          go_simp
          refine hK.out _ _ (by exact hold7o (by (with_reducible repeat' (first | exact Gr.refl _ | refine Gr.set ?_ _ ?_ _ | refine Gr.alloc ?_ | refine Gr.drew ?_ | refine Gr.trans ?_ (by assumption))) <;> (first | (simp; done) | (simp; omega) | omega)) x0 x1 d0 d1 d2 d3 d4) (fun hHeldN => ?_)
          clear hHeld hK K
          have hHeld := hHeldN
          clear hHeldN
          refine wpAnyH_ready (rs := [5]) (by kernel_rfl) (by simp) (AllReadyH.cons rfl (fun K hK => ?_) AllReadyH.nil)
          go_simp
          (go_at_call 27; refine (HD.out _ (by (with_reducible repeat' (first | exact Gr.refl _ | refine Gr.set ?_ _ ?_ _ | refine Gr.alloc ?_ | refine Gr.drew ?_ | refine Gr.trans ?_ (by assumption))) <;> (first | (simp; done) | (simp; omega) | omega))).mono ?_; rintro e wn ⟨b1, s1, b2, s2, rfl, hi1, hi2, hf1, hf2, hgn⟩; have hzn := hgn.size; simp at hzn; have HI1 : Hid (AccsAt wn b1 A') := hi1; have HI2 : Hid (MksAt wn b2 M') := hi2; have HF1 : Hid (Fr _ a1 b1 A A') := hf1; have HF2 : Hid (Fr _ a2 b2 M M') := hf2; clear hi1 hi2 hf1 hf2; have hbz := ((TwoAt.new wr _ _ _ _ rfl).gr (Gr.refl _).drew).gr hgn; have HBZ : Hid (TwoAt wn wr.heap.size _ _) := hbz; obtain ⟨z0, z1, zf0, zf1, zl⟩ := hbz)
          (try go_wp2_with fail)
          refine hK.out _ _ (by exact hold7o (by (with_reducible repeat' (first | exact Gr.refl _ | refine Gr.set ?_ _ ?_ _ | refine Gr.alloc ?_ | refine Gr.drew ?_ | refine Gr.trans ?_ (by assumption))) <;> (first | (simp; done) | (simp; omega) | omega)) x0 x1 d0 d1 d2 d3 d4) (fun hHeldN => ?_)
          clear hHeld hK K
          have hHeld := hHeldN
          clear hHeldN
          refine ty 6 16 hHeld ?_
          refine ty 7 23 hHeld ?_
          refine ty 8 24 hHeld ?_
          refine wpAnyH_ready (rs := [10]) (by kernel_rfl) (by simp) (AllReadyH.cons rfl (fun K hK => ?_) AllReadyH.nil)
          go_simp
          refine hK.out _ _ (by exact hold7o (by (with_reducible repeat' (first | exact Gr.refl _ | refine Gr.set ?_ _ ?_ _ | refine Gr.alloc ?_ | refine Gr.drew ?_ | refine Gr.trans ?_ (by assumption))) <;> (first | (simp; done) | (simp; omega) | omega)) x0 x1 d0 d1 d2 d3 d4) (fun hHeldN => ?_)
          clear hHeld hK K
          have hHeld := hHeldN
          clear hHeldN
          refine ty 11 8 hHeld ?_
          refine wpAnyH_done (by kernel_rfl) ?_ _
          go_wp2_with fail
          go_meet
          exact ⟨_, b1, s1, b2, s2, rfl, rfl, by omega, HBZ.out.set2 _ _, (RowAt.setOff HI1.out _ _ (off_fr (off_new accC_len (by decide) HI.out.r1 (Nat.le_refl _)) HF1.out (by simp))).setOff _ _ (off_fr (off_new accC_len (by decide) HI.out.r1 (Nat.le_refl _)) HF1.out (by simp)), (RowAt.setOff HI2.out _ _ (off_fr (off_new mkC_len (by decide) HI.out.r2 (Nat.le_refl _)) HF2.out (by simp))).setOff _ _ (off_fr (off_new mkC_len (by decide) HI.out.r2 (Nat.le_refl _)) HF2.out (by simp)), (fun g hg h => off_fr h HF1.out (by simp; omega)), (fun g hg h => off_fr h HF2.out (by simp; omega)), (by (with_reducible repeat' (first | exact Gr.refl _ | refine Gr.set ?_ _ ?_ _ | refine Gr.alloc ?_ | refine Gr.drew ?_ | refine Gr.trans ?_ (by assumption))) <;> (first | (simp; done) | (simp; omega) | omega))⟩
      case rest =>
      obtain ⟨wp, rfl⟩ : ∃ x, x = wc := ⟨_, rfl⟩
      obtain ⟨Q, b1, s1, b2, s2, rfl, rfl, hQ, hZ, hz1, hz2, hz3, hz4, hgc⟩ := hcut
      have hrl : w.heap.size + 1 < wr.heap.size := HI.out.bx.lt
      have HZ : Hid (TwoAt wp Q (.slice b1 A'.length s1) (.slice b2 M'.length s2)) := hZ
      have HBX : Hid (TwoAt wp (w.heap.size + 1) (.slice a1 A.length c1) (.slice a2 M.length c2)) := HI.out.bx.gr hgc
      have HIP : Hid (∀ (W : World) (fv : Value) (F2 : List (ByteArray × Int)), wp.grownBy W u5.ownBlock → Bal A' M' F2 → W.ownsRow (w.heap.size + 2) 31 7 fv F2.length (fV F2) → (fv.ownBlock = u5.ownBlock ∨ ∀ g, fv.ownBlock = some g → wp.heap.size ≤ g) → Gr w W → OpI w ((W.setCell ⟨w.heap.size + 1, 0, none⟩ (.slice b1 A'.length s1)).setCell ⟨w.heap.size + 1, 1, none⟩ (.slice b2 M'.length s2)) (k + 1) A' M' F2 b1 s1 b2 s2 fv) := by
        intro W fv F2 hgr hbal how hwh hgW
        have ne : ∀ i, i < w.heap.size + 2 → some i ≠ u5.ownBlock := fun i hi e => by have := (HI.out.own.lt _ e.symm).1; omega
        have ne2 : ∀ i, i < w.heap.size + 2 → fv.ownBlock ≠ some i := fun i hi e => by have := (how.lt _ e).1; omega
        have of1 : ∀ g, u5.ownBlock = some g → Off g b1 A' := fun g e => hz3 g (HI.out.own.lt _ e).2 (HI.out.ap g e).1
        have of2 : ∀ g, u5.ownBlock = some g → Off g b2 M' := fun g e => hz4 g (HI.out.own.lt _ e).2 (HI.out.ap g e).2
        have q1 : Off (w.heap.size + 1) b1 A' := hz3 _ hrl HI.out.o1
        have q2 : Off (w.heap.size + 1) b2 M' := hz4 _ hrl HI.out.o2
        refine ⟨HMM.out, hbal, ((RowAt.grown hz1 hgr of1).setOff _ _ q1).setOff _ _ q1, ((RowAt.grown hz2 hgr of2).setOff _ _ q2).setOff _ _ q2, ((HBX.out.grown hgr (ne _ (by omega))).set2 _ _), ?_, q1, q2, hz3 _ (by omega) HI.out.p1, hz4 _ (by omega) HI.out.p2, own_far (own_far how _ _ (ne2 _ (by simp))) _ _ (ne2 _ (by simp)), ?_, (hgW.set _ (by simp) _).set _ (by simp) _⟩
        · exact ((((HI.out.rs.gr hgc).grown hgr (ne _ (by omega))).far _ _ (by simp)).far _ _ (by simp))
        · intro g e
          rcases hwh with h | h
          · rw [h] at e; exact ⟨of1 g e, of2 g e⟩
          · exact ⟨off_new accC_len (by decide) hz1 (h g e), off_new mkC_len (by decide) hz2 (h g e)⟩
      have HGP : Hid (Gr w wp) := HI.out.g.trans hgc
      have HOP : Hid (wp.ownsRow (w.heap.size + 2) 31 7 u5 F.length (fV F)) := own_gr2 HI.out.own hgc
      have hFl : F.length ≤ 12 := by have h1 := HI.out.bal.1; have h2 := HI.out.may.la; omega
      have d0 := hgc.keep d0
      have d3 := hgc.keep d3
      have d4 := hgc.keep d4
      have hbw : bb < wp.heap.size := Nat.lt_of_lt_of_le hbw hgc.size
      have hwz : w.heap.size + 2 ≤ wp.heap.size := by have := hgc.size; omega
      have HUL : Hid (∀ g, u5.ownBlock = some g → g < wr.heap.size) := fun g e => (HI.out.own.lt g e).2
      clear hgc hZ hz1 hz2 hz3 hz4 x0 x1 xf0 xf1 xl HD HI d1 d2
      obtain ⟨y0, y1, _, _, yl⟩ := HZ.out
      by_cases hgo : ok = true ∧ q.kd = 0
      · obtain ⟨rfl, hkd⟩ := hgo
        have HBF : Hid (Bal A' M' (F ++ [(q.t, q.n)])) := by
          have h1 := HST.out
          rw [if_pos ⟨rfl, hkd⟩] at h1
          have h2 := HBB.out
          rw [h1] at h2
          exact h2
        have hne : (q.kd == 0) = true := by simpa using hkd
        have HQK : Hid (q.kd = 0) := hkd
        clear hkd HBB HST
        go_upto_region 8 with fail
        have hkk : wp.drew.cell? ⟨bb, off + k * 5 + 3, none⟩ = some (.string q.t) ∧ wp.drew.cell? ⟨bb, off + k * 5 + 4, none⟩ = some (.int .i64 q.n) := ⟨d3, d4⟩
        refine wp_region_held_drew (S := (fun w' => w'.cell? ⟨bb, off + k * 5 + 3, none⟩ = some (.string q.t) ∧ w'.cell? ⟨bb, off + k * 5 + 4, none⟩ = some (.int .i64 q.n))) (by kernel_rfl) (by first | with_reducible exact hkk | with_reducible exact ⟨(Gr.refl _).alloc.keep hkk.1, (Gr.refl _).alloc.keep hkk.2⟩) (fun hHeld => ?_)
        obtain ⟨W, hW⟩ : ∃ W, W = wp.drew := ⟨_, rfl⟩
        rw [← hW] at hkk hHeld ⊢
        have gW : Gr wp W := by rw [hW]; exact (Gr.refl _).drew
        have hsW : wp.heap.size = W.heap.size := by rw [hW]; rfl
        have HSW : Hid (wp.heap.size = W.heap.size) := hsW
        clear hW hsW
        refine ty 0 34 hHeld ?_
        refine ty 1 35 hHeld ?_
        refine ty 2 36 hHeld ?_
        refine ty 3 37 hHeld ?_
        refine ty 4 38 hHeld ?_
        refine ty 5 39 hHeld ?_
        refine ty 6 40 hHeld ?_
        refine ty 7 41 hHeld ?_
        refine ty 8 42 hHeld ?_
        refine ty 9 43 hHeld ?_
        refine ty 10 44 hHeld ?_
        refine ty 11 45 hHeld ?_
        refine ty 12 46 hHeld ?_
        refine ty 13 47 hHeld ?_
        refine ty 14 48 hHeld ?_
        refine wpAnyH_ready (rs := [15]) (by kernel_rfl) (by simp) (AllReadyH.cons rfl (fun K hK => ?_) AllReadyH.nil)
        go_simp
        refine hK.out _ _ (by first | with_reducible exact hkk | with_reducible exact ⟨(Gr.refl _).alloc.keep hkk.1, (Gr.refl _).alloc.keep hkk.2⟩) (fun hHeldN => ?_)
        clear hHeld hK K
        have hHeld := hHeldN
        clear hHeldN
        have HO6 : Hid (World.ownsRow (W.alloc (.cells #[.string q.t, .int .i64 q.n, .int .i64 0, .int .i64 0, .int .i64 0, .int .i64 0, .int .i64 0] 31)) (w.heap.size + 2) 31 7 u5 F.length (fV F)) := own_gr2 HOP.out gW.alloc
        have HN6 := f_lit W q.t q.n 31
        have HN6' : Hid (∀ j u, (fV [(q.t, q.n)])[j]? = some u → (W.alloc (.cells #[.string q.t, .int .i64 q.n, .int .i64 0, .int .i64 0, .int .i64 0, .int .i64 0, .int .i64 0] 31)).cell? ((⟨W.heap.size, 0, none⟩ : Addr).add j) = some u) := HN6
        clear HN6
        have hb6 : w.heap.size + 2 ≤ (W.alloc (.cells #[.string q.t, .int .i64 q.n, .int .i64 0, .int .i64 0, .int .i64 0, .int .i64 0, .int .i64 0] 31)).heap.size := by have := gW.size; simp; omega
        refine wpAnyH_ready (rs := [16]) (by kernel_rfl) (by simp) (AllReadyH.cons rfl (fun K hK => ?_) AllReadyH.nil)
        refine step_append_at (by rfl) _ _ 22 (by rfl) (w.heap.size + 2) 31 i0 (.agg #[.string ⟨#[]⟩, .int .i64 0, .int .i64 0, .int .i64 0, .int .i64 0, .int .i64 0, .int .i64 0]) 7 64 Try.underlying22 hi hz0 hz1 hz2 rfl (by decide) _ _ _ (by rfl) HO6.out ⟨W.heap.size, 0, none⟩ 1 1 (fV [(q.t, q.n)]) (by rfl) (by rfl) HN6'.out (fV_one _) (by unfold maxLen; omega) (by omega) hb6 ?_
        intro v6 w6 ho6 hgr6 hwh6
        obtain ⟨a6, c6, rfl⟩ := own_slice ho6
        have nbb : some bb ≠ u5.ownBlock := fun e => by have := (HO6.out.lt _ e.symm).1; omega
        have hkk : w6.cell? ⟨bb, off + k * 5 + 3, none⟩ = some (.string q.t) ∧ w6.cell? ⟨bb, off + k * 5 + 4, none⟩ = some (.int .i64 q.n) := ⟨hgr6.cell ((Gr.refl W).alloc.keep hkk.1) nbb, hgr6.cell ((Gr.refl W).alloc.keep hkk.2) nbb⟩
        refine hK.out (Act.put _ (some 50) (.slice a6 (F.length + 1) c6)) _ (by with_reducible exact hkk) (fun hHeldN => ?_)
        clear hHeld hK K
        have hHeld := hHeldN
        clear hHeldN
        simp only [Act.put, List.setIfInBounds_toArray, List.set_cons_zero, List.set_cons_succ]
        refine ty 17 5 hHeld ?_
        refine wpAnyH_done (by kernel_rfl) ?_ _
        have gA : Gr wp (W.alloc (.cells #[.string q.t, .int .i64 q.n, .int .i64 0, .int .i64 0, .int .i64 0, .int .i64 0, .int .i64 0] 31)) := gW.alloc
        have ne : ∀ i, (i < w.heap.size + 2 ∨ wr.heap.size ≤ i) → some i ≠ u5.ownBlock := fun i hi e => by
          have h1 := (HO6.out.lt _ e.symm).1
          have h2 := HUL.out _ e.symm
          omega
        have HE6 : Hid (OpI w ((w6.setCell ⟨w.heap.size + 1, 0, none⟩ (.slice b1 A'.length s1)).setCell ⟨w.heap.size + 1, 1, none⟩ (.slice b2 M'.length s2)) (k + 1) A' M' (F ++ [(q.t, q.n)]) b1 s1 b2 s2 (.slice a6 (F.length + 1) c6)) := by
          refine HIP.out w6 _ _ (gr_grown gA hgr6) HBF.out ?_ ?_ (Gr.grown (HGP.out.trans gA) hgr6 (fun g e => by have := (HO6.out.lt g e).1; omega))
          · rw [List.length_append, List.length_singleton, fV_app]; exact ho6
          · rcases hwh6 with h | h
            · exact Or.inl h
            · right
              intro g e
              rw [h] at e
              cases e
              exact gA.size
        obtain ⟨y0, y1, _, _, yl⟩ := (HZ.out.gr gA).grown hgr6 (ne Q (Or.inr hQ))
        obtain ⟨x0, x1, xf0, xf1, xl⟩ := (HBX.out.gr gA).grown hgr6 (ne _ (Or.inl (by omega)))
        clear gA gW hgr6 ho6 hwh6 HO6 HN6' hkk nbb d0 d3 d4 hb6
        go_wp2
        go_roundw
        case rel => exact ⟨k + 1, A', M', _, b1, s1, b2, s2, by omega, by go_num, HE6.out⟩
        case measure => simp [intOf]; omega
      · have HBF : Hid (Bal A' M' F) := by
          have h1 := HST.out
          rw [if_neg hgo] at h1
          have h2 := HBB.out
          rw [h1] at h2
          exact h2
        have HE6 : Hid (OpI w ((wp.setCell ⟨w.heap.size + 1, 0, none⟩ (.slice b1 A'.length s1)).setCell ⟨w.heap.size + 1, 1, none⟩ (.slice b2 M'.length s2)) (k + 1) A' M' F b1 s1 b2 s2 u5) :=
          HIP.out wp _ _ (gr_grown2 _ (Gr.refl _)) HBF.out HOP.out (Or.inl rfl) HGP.out
        obtain ⟨x0, x1, xf0, xf1, xl⟩ := HBX.out
        clear HBB HST
        cases ok with
        | false =>
          clear hgo d0 d3 d4
          go_wp2
          go_roundw
          case rel => exact ⟨k + 1, A', M', _, b1, s1, b2, s2, by omega, by go_num, HE6.out⟩
          case measure => simp [intOf]; omega
        | true =>
          have hkd : (q.kd == 0) = false := by
            rw [beq_eq_false_iff_ne]
            exact fun h => hgo ⟨rfl, h⟩
          clear hgo d3 d4
          go_wp2
          go_roundw
          case rel => exact ⟨k + 1, A', M', _, b1, s1, b2, s2, by omega, by go_num, HE6.out⟩
          case measure => simp [intOf]; omega
    · have hki : ¬ (k : Int) < (T.length : Int) := by omega
      obtain ⟨a3, c3, h3, _, _, hr3, hfr3, _⟩ := own_row (L := F.map fA) (by rw [List.length_map]; exact HI.out.own)
      rw [List.length_map] at h3
      subst h3
      have HR3 : Hid (AccsAt wr a3 (F.map fA)) := hr3
      have HFR : Hid (∀ a, a3 = some a → w.heap.size + 2 ≤ a.block) := hfr3
      clear hr3 hfr3
      obtain ⟨x0, x1, xf0, xf1, xl⟩ := HI.out.bx
      obtain ⟨y0, y1, yf0, yf1, yl⟩ := HI.out.rs
      go_wp2
      exact bodyPost_ret (v := .tuple #[.agg #[.slice a1 A.length c1, .slice a2 M.length c2], .slice a3 F.length c3]) (by simp [results, Try.results28, go_sem, *]) rfl ⟨A, M, F, a1, c1, a2, c2, a3, c3, rfl, HI.out.may, HI.out.bal, (RowAt.setOff HI.out.r1 _ _ HI.out.p1).setOff _ _ HI.out.p1, (RowAt.setOff HI.out.r2 _ _ HI.out.p2).setOff _ _ HI.out.p2, (RowAt.setFar HR3.out _ _ (fun a e => by have := HFR.out a e; simp; omega)).setFar _ _ (fun a e => by have := HFR.out a e; simp; omega), (HI.out.g.set _ (by simp) _).set _ (by simp) _⟩
end Go.Proofs.Ytgidkmipecfjhaa
namespace Go.Proofs.Ytgidkmipecfjhaa
open Go.RowKit
open Led (Acc Mk)
def effB (s a : ByteArray) (m : Mk) : Bool := decide (m.t = s) && !decide (m.st = 2) && Lib.hasPrefix m.key.data.toList a.data.toList
def fsL (s a : ByteArray) (M : List Mk) : List Int := (M.filter (effB s a)).map Led.amF
def ksL (s a : ByteArray) (M : List Mk) : List Int := (M.filter (effB s a)).map Led.amK
theorem eff_iff (s a : ByteArray) (m : Mk) : effB s a m = true ↔ m.t = s ∧ m.st ≠ 2 ∧ Lib.hasPrefix m.key.data.toList a.data.toList = true := by
  unfold effB
  simp only [Bool.and_eq_true, decide_eq_true_eq, Bool.not_eq_true', decide_eq_false_iff_not]
  constructor
  · rintro ⟨⟨a, b⟩, c⟩; exact ⟨a, b, c⟩
  · rintro ⟨a, b, c⟩; exact ⟨⟨a, b⟩, c⟩
theorem fs_yes {s a : ByteArray} {M : List Mk} {k : Nat} (h : k < M.length) (he : effB s a M[k] = true) : fsL s a (M.take (k + 1)) = fsL s a (M.take k) ++ [Led.amF M[k]] ∧ ksL s a (M.take (k + 1)) = ksL s a (M.take k) ++ [Led.amK M[k]] := by
  unfold fsL ksL
  rw [List.take_succ_eq_append_getElem h, List.filter_append]
  simp [he]
theorem fs_not {s a : ByteArray} {M : List Mk} {k : Nat} (h : k < M.length) (he : ¬ effB s a M[k] = true) : fsL s a (M.take (k + 1)) = fsL s a (M.take k) ∧ ksL s a (M.take (k + 1)) = ksL s a (M.take k) := by
  unfold fsL ksL
  rw [List.take_succ_eq_append_getElem h, List.filter_append]
  simp [he]
theorem fs_len (s a : ByteArray) (M : List Mk) : (fsL s a M).length ≤ M.length ∧ (ksL s a M).length ≤ M.length := by
  unfold fsL ksL
  rw [List.length_map, List.length_map]
  exact ⟨List.length_filter_le _ _, List.length_filter_le _ _⟩
theorem own_none (w : World) (base : Nat) (e : TypeId) (size : Nat) : w.ownsRow base e size (.slice none 0 0) 0 [] := ⟨by simp, Or.inl ⟨rfl, rfl⟩⟩
theorem sum_within {l : List Int} (B : Int) (h : ∀ a ∈ l, -B ≤ a ∧ a ≤ B) : -(B * l.length) ≤ Csh.sumE l ∧ Csh.sumE l ≤ B * l.length := by
  induction l with
  | nil => simp [Csh.sumE]
  | cons x t ih =>
    have h1 := h x (by simp)
    have h2 := ih (fun a ha => h a (by simp [ha]))
    rw [Csh.sum_cons, List.length_cons, Int.natCast_succ, Int.mul_add, Int.mul_one]
    omega
theorem fs_rng {A : List Acc} {M : List Mk} (s a : ByteArray) (hok : ∀ m ∈ M, Led.mkOk A m = true) : (∀ x ∈ fsL s a M, -1000000000000000 ≤ x ∧ x ≤ 1000000000000000) ∧ (∀ x ∈ ksL s a M, -1000000000000000 ≤ x ∧ x ≤ 1000000000000000) := by
  unfold fsL ksL
  refine ⟨fun x hx => ?_, fun x hx => ?_⟩
  · obtain ⟨m, hm, rfl⟩ := List.mem_map.1 hx
    exact (Led.am_rng ((Led.mk_iff A m).1 (hok m (List.mem_filter.1 hm).1)).2.1).1
  · obtain ⟨m, hm, rfl⟩ := List.mem_map.1 hx
    exact (Led.am_rng ((Led.mk_iff A m).1 (hok m (List.mem_filter.1 hm).1)).2.1).2
set_option maxHeartbeats 4000000 in
set_option maxRecDepth 100000 in
theorem changesN_any (A : List Acc) (M : List Mk) (ad : Option Addr) (cap N H F1 F2 base : Nat) (s a : ByteArray) (w0 w : World) (hM : MksAt w0 ad M) (hmk : Led.mksB A M = true)
    (hN : w0.cell? ⟨N, 0, none⟩ = some (.string s)) (hH : w0.cell? ⟨H, 0, none⟩ = some (.string a)) (hF1 : w0.heap.size ≤ F1) (hF2 : w0.heap.size ≤ F2) (hg : Gr w0 w) (hf : NetM w base F1 F2 (.slice none 0 0) (.slice none 0 0) (.slice none 0 0) (.slice none 0 0) [] []) :
    Calls Try.prog 33 #[.slice ad M.length cap, .func (.func 34) #[] #[.pointer (some ⟨N, 0, none⟩), .pointer (some ⟨H, 0, none⟩), .pointer (some ⟨F1, 0, none⟩), .pointer (some ⟨F2, 0, none⟩)]] w fun e w' => e = .returned (.tuple #[]) ∧ (∃ u1 u2, NetM w' base F1 F2 u1 u2 u1 u2 (fsL s a M) (ksL s a M)) ∧ Gr w0 w' := by
  obtain ⟨hl5, hok, hup⟩ := (Led.mks_iff A M).1 hmk
  have HL : Hid (MksAt w0 ad M) := hM
  have HD : Hid (∀ m w', m ∈ M → Calls Try.prog 29 #[.agg #[.int .i64 m.k, .string m.t, .int .i64 m.n]] w' fun e w2 => e = .returned (.tuple #[.int .i64 (Led.amF m), .int .i64 (Led.amK m)]) ∧ Gr w' w2) := by
    intro m w' hm
    obtain ⟨_, h2, _⟩ := (Led.mk_iff A m).1 (hok m hm)
    have h16 := (Act.name_pos ((Act.act_iff _ _ _).1 h2).2.1).2
    exact delta_any m.k m.n m.t w' (by omega)
  have HC : Hid (∀ (k : Nat) (h : k < M.length) w', Gr w0 w' → (∃ u1 u2, NetM w' base F1 F2 u1 u2 u1 u2 (fsL s a (M.take k)) (ksL s a (M.take k))) → Calls Try.prog 34 #[.agg #[.string M[k].key, .int .i64 M[k].k, .string M[k].t, .int .i64 M[k].n, .int .i64 M[k].st], .int .i64 (Led.amF M[k]), .int .i64 (Led.amK M[k]), .pointer (some ⟨N, 0, none⟩), .pointer (some ⟨H, 0, none⟩), .pointer (some ⟨F1, 0, none⟩), .pointer (some ⟨F2, 0, none⟩)] w' fun e w2 => e = .returned (.tuple #[]) ∧ (∃ u1 u2, NetM w2 base F1 F2 u1 u2 u1 u2 (fsL s a (M.take (k + 1))) (ksL s a (M.take (k + 1)))) ∧ Gr w0 w2) := by
    intro k h w' g ⟨u1, u2, hn⟩
    by_cases he : effB s a M[k] = true
    · obtain ⟨e1, e2, e3⟩ := (eff_iff _ _ _).1 he
      rw [(fs_yes h he).1, (fs_yes h he).2]
      have hlen := fs_len s a (M.take k)
      rw [List.length_take] at hlen
      exact net1_yes M[k] _ _ N H F1 F2 base s a u1 u2 _ _ w0 w' hN hH g hn hF1 hF2 e1 e2 e3 (by omega)
    · rw [(fs_not h he).1, (fs_not h he).2]
      exact net1_not M[k] _ _ N H F1 F2 base s a u1 u2 _ _ w0 w' hN hH g hn (fun hh => he ((eff_iff _ _ _).2 hh))
  have HS : Hid (∃ u1 u2, NetM w base F1 F2 u1 u2 u1 u2 (fsL s a (M.take 0)) (ksL s a (M.take 0))) := ⟨_, _, hf⟩
  have HG : Hid (Gr w0 w) := hg
  clear hM hmk hN hH hg hf hok hup
  go_enter Try.func33, Try.ntmps33
  go_wp2
  go_loopw [10] (fun s10 wr => ∃ k : Nat, s10 = .int .i64 k ∧ k ≤ M.length ∧ (∃ u1 u2, NetM wr base F1 F2 u1 u2 u1 u2 (fsL s a (M.take k)) (ksL s a (M.take k))) ∧ Gr w0 wr) (fun s10 _ => M.length - (intOf s10).toNat)
  case atStart => exact ⟨0, rfl, Nat.zero_le _, HS.out, HG.out⟩
  case round =>
    clear HS HG
    obtain ⟨k, rfl, hk, ha, hg⟩ := hrel
    have HAr : Hid (∃ u1 u2, NetM wr base F1 F2 u1 u2 u1 u2 (fsL s a (M.take k)) (ksL s a (M.take k))) := ha
    have HG : Hid (Gr w0 wr) := hg
    clear ha hg
    by_cases hlt : k < M.length
    · obtain ⟨b, off, rfl, hb, d0, d1, d2, d3, d4⟩ := (MksAt.at HL.out k hlt)
      have d0 := HG.out.keep d0
      have d1 := HG.out.keep d1
      have d2 := HG.out.keep d2
      have d3 := HG.out.keep d3
      have d4 := HG.out.keep d4
      have hbw : b < wr.heap.size := Nat.lt_of_lt_of_le hb HG.out.size
      have hki : (k : Int) < (M.length : Int) := by omega
      have hD := fun w' => HD.out M[k] w' (List.getElem_mem hlt)
      have hC := HC.out k hlt
      clear HC HD
      generalize Led.amF M[k] = fr at *
      generalize Led.amK M[k] = kp at *
      generalize M[k] = x at *
      have HD1 : Hid (∀ w', Calls Try.prog 29 #[.agg #[.int .i64 x.k, .string x.t, .int .i64 x.n]] w' fun e w2 => e = .returned (.tuple #[.int .i64 fr, .int .i64 kp]) ∧ Gr w' w2) := hD
      have HC1 : Hid (∀ w', Gr w0 w' → (∃ u1 u2, NetM w' base F1 F2 u1 u2 u1 u2 (fsL s a (M.take k)) (ksL s a (M.take k))) → Calls Try.prog 34 #[.agg #[.string x.key, .int .i64 x.k, .string x.t, .int .i64 x.n, .int .i64 x.st], .int .i64 fr, .int .i64 kp, .pointer (some ⟨N, 0, none⟩), .pointer (some ⟨H, 0, none⟩), .pointer (some ⟨F1, 0, none⟩), .pointer (some ⟨F2, 0, none⟩)] w' fun e w2 => e = .returned (.tuple #[]) ∧ (∃ u1 u2, NetM w2 base F1 F2 u1 u2 u1 u2 (fsL s a (M.take (k + 1))) (ksL s a (M.take (k + 1)))) ∧ Gr w0 w2) := hC
      clear hD hC
      go_wp2_with fail
      refine (HD1.out _).mono ?_
      rintro e w1 ⟨rfl, hg1⟩
      obtain ⟨b0, b1, b2, b3, b4, _, b6⟩ := (FiveAt.new wr _ _ _ _ _ _ wr.heap.size rfl).gr hg1
      have HG1 : Hid (Gr w0 w1) := HG.out.alloc.trans hg1
      have HAr1 : Hid (∃ u1 u2, NetM w1 base F1 F2 u1 u2 u1 u2 (fsL s a (M.take k)) (ksL s a (M.take k))) := by
        obtain ⟨u1, u2, hn⟩ := HAr.out
        exact ⟨u1, u2, hn.gr ((Gr.refl wr).alloc.trans hg1)⟩
      clear hg1 HG HAr d0 d1 d2 d3 d4
      go_wp2_with fail
      refine (HC1.out _ HG1.out HAr1.out).mono ?_
      rintro e w2 ⟨rfl, ha2, hg2⟩
      have HG2 : Hid (Gr w0 w2) := hg2
      have HAr2 : Hid (∃ u1 u2, NetM w2 base F1 F2 u1 u2 u1 u2 (fsL s a (M.take (k + 1))) (ksL s a (M.take (k + 1)))) := ha2
      clear ha2 hg2
      go_wp2
      go_roundw
      case rel => exact ⟨k + 1, by go_num, by omega, HAr2.out, HG2.out⟩
      case measure => simp [intOf]; omega
    · have hge : ¬ ((k : Int) < (M.length : Int)) := by omega
      obtain rfl : k = M.length := by omega
      have HE : Hid (∃ u1 u2, NetM wr base F1 F2 u1 u2 u1 u2 (fsL s a M) (ksL s a M)) := by have := HAr.out; rw [List.take_length] at this; exact this
      go_wp2
      go_end0
      exact ⟨rfl, HE.out, HG.out⟩
end Go.Proofs.Ytgidkmipecfjhaa
namespace Go.Proofs.Ytgidkmipecfjhaa
open Go.RowKit
open Led (Acc Mk)
theorem one_at (w : World) (v : Value) (t : TypeId) (g : Nat) (hg : g = w.heap.size) : (w.alloc (.cells #[v] t)).cell? ⟨g, 0, none⟩ = some v := by subst hg; simp
def netE (A : List Acc) (M : List Mk) (s : ByteArray) : Int := if Led.mayB A M = true then (if Led.hasB (Led.nm A) s = true then 0 else 70) else 2
def netF (A : List Acc) (M : List Mk) (s a : ByteArray) : Int := if netE A M s = 0 then Csh.sumE (fsL s a M) else 0
def netK (A : List Acc) (M : List Mk) (s a : ByteArray) : Int := if netE A M s = 0 then Csh.sumE (ksL s a M) else 0
theorem fs_sum {A : List Acc} {M : List Mk} (s a : ByteArray) (hm : Led.May A M) : (-500000000000000000 ≤ Csh.sumE (fsL s a M) ∧ Csh.sumE (fsL s a M) ≤ 500000000000000000) ∧ (-500000000000000000 ≤ Csh.sumE (ksL s a M) ∧ Csh.sumE (ksL s a M) ≤ 500000000000000000) := by
  have r := fs_rng s a hm.om
  have l := fs_len s a M
  have h5 := hm.lm
  have s1 := sum_within 1000000000000000 r.1
  have s2 := sum_within 1000000000000000 r.2
  omega
set_option maxHeartbeats 4000000 in
set_option maxRecDepth 100000 in
theorem net7_any (A : List Acc) (M : List Mk) (s a : ByteArray) (adA : Option Addr) (capA : Nat) (adM : Option Addr) (capM : Nat) (w : World) (h : LedAt w adA adM A M) :
    Calls Try.prog 12 #[.agg #[.slice adA A.length capA, .slice adM M.length capM], .string s, .string a] w fun e w' => e = .returned (.tuple #[.int .i64 (netF A M s a), .int .i64 (netK A M s a), .int .i64 (netE A M s)]) ∧ Gr w w' := by
  have HM : Hid (∀ w', Gr w w' → Calls Try.prog 14 #[.agg #[.slice adA A.length capA, .slice adM M.length capM]] w' fun e w2 => e = .returned (.int .i64 (mayL A M)) ∧ Gr w' w2) := fun w' g => (h.gr g).may capA capM
  have hmf : ∀ (fn : Fn) (first cap : Array Value) (w : World), (Instr.makeFunc fn first cap).run Try.prog w = .ok (.func fn first cap) w := fun _ _ _ _ => rfl
  cases hm : Led.mayB A M with
  | false =>
    rw [mayL_no hm] at HM
    have hE : netE A M s = 2 := by unfold netE; rw [hm]; rfl
    have hF : netF A M s a = 0 := by unfold netF; rw [hE]; rfl
    have hK : netK A M s a = 0 := by unfold netK; rw [hE]; rfl
    rw [hE, hF, hK]
    clear h hm hE hF hK
    go_enter Try.func12, Try.ntmps12
    go_wp2_with fail
    refine (HM.out _ ((Gr.refl _).alloc.alloc.alloc)).mono ?_
    rintro e w1 ⟨rfl, hg1⟩
    have g1 : Gr w w1 := (by repeat (first | exact Gr.refl _ | refine Gr.alloc ?_ | refine Gr.drew ?_ | refine Gr.trans ?_ (by assumption)))
    clear hg1
    go_wp2
    exact bodyPost_ret (v := .tuple #[.int .i64 0, .int .i64 0, .int .i64 2]) (by simp [results, Try.results12, go_sem, *]) rfl ⟨rfl, g1⟩
  | true =>
    rw [mayL_yes hm] at HM
    have hM := (Led.may_iff A M).1 hm
    have HF : Hid (∀ w', Gr w w' → Calls Try.prog 30 #[.slice adA A.length capA, .string s] w' fun e w2 => e = .returned (.tuple #[.int .i64 (Led.pos (Led.nm A) s : Nat), .bool (Led.hasB (Led.nm A) s)]) ∧ Gr w' w2) := fun w' g => findA_any A s adA capA w' (h.a.gr g) hM.ua (by have := hM.la; omega)
    cases hb : Led.hasB (Led.nm A) s with
    | false =>
      rw [hb] at HF
      have hE : netE A M s = 70 := by unfold netE; rw [hm, hb]; rfl
      have hF : netF A M s a = 0 := by unfold netF; rw [hE]; rfl
      have hK : netK A M s a = 0 := by unfold netK; rw [hE]; rfl
      rw [hE, hF, hK]
      generalize Led.pos (Led.nm A) s = p at *
      clear h hm hM hb hE hF hK
      go_enter Try.func12, Try.ntmps12
      go_wp2_with fail
      refine (HM.out _ ((Gr.refl _).alloc.alloc.alloc)).mono ?_
      rintro e w1 ⟨rfl, hg1⟩
      have g1 : Gr w w1 := (by repeat (first | exact Gr.refl _ | refine Gr.alloc ?_ | refine Gr.drew ?_ | refine Gr.trans ?_ (by assumption)))
      obtain ⟨b0, b1, _, _, bl⟩ := (((TwoAt.new w (.slice adA A.length capA) (.slice adM M.length capM) 25 _ rfl).gr (Gr.refl _).alloc).gr (Gr.refl _).alloc).gr hg1
      have n0 : w1.cell? ⟨w.heap.size + 1, 0, none⟩ = some (.string s) := hg1.keep ((Gr.refl _).alloc.keep (one_at (w.alloc _) (.string s) _ (w.heap.size + 1) (by simp)))
      have nl : w.heap.size + 1 < w1.heap.size := World.block_lt_of_cell? w1 _ n0
      clear hg1
      go_wp2_with fail
      refine (HF.out _ g1).mono ?_
      rintro e w2 ⟨rfl, hg2⟩
      have g2 : Gr w w2 := g1.trans hg2
      clear hg2 b0 b1 bl n0 nl
      go_wp2
      exact bodyPost_ret (v := .tuple #[.int .i64 0, .int .i64 0, .int .i64 70]) (by simp [results, Try.results12, go_sem, *]) rfl ⟨rfl, g2⟩
    | true =>
      rw [hb] at HF
      have hE : netE A M s = 0 := by unfold netE; rw [hm, hb]; rfl
      have hF : netF A M s a = Csh.sumE (fsL s a M) := by unfold netF; rw [hE]; rfl
      have hK : netK A M s a = Csh.sumE (ksL s a M) := by unfold netK; rw [hE]; rfl
      rw [hE, hF, hK]
      have hmk : Led.mksB A M = true := (Led.mks_iff A M).2 ⟨hM.lm, hM.om, hM.um⟩
      have HCH : Hid (∀ (N H F1 F2 base : Nat) (w0 w' : World), Gr w w0 → w0.cell? ⟨N, 0, none⟩ = some (.string s) → w0.cell? ⟨H, 0, none⟩ = some (.string a) → w0.heap.size ≤ F1 → w0.heap.size ≤ F2 → Gr w0 w' → NetM w' base F1 F2 (.slice none 0 0) (.slice none 0 0) (.slice none 0 0) (.slice none 0 0) [] [] →
          Calls Try.prog 33 #[.slice adM M.length capM, .func (.func 34) #[] #[.pointer (some ⟨N, 0, none⟩), .pointer (some ⟨H, 0, none⟩), .pointer (some ⟨F1, 0, none⟩), .pointer (some ⟨F2, 0, none⟩)]] w' fun e w2 => e = .returned (.tuple #[]) ∧ (∃ u1 u2, NetM w2 base F1 F2 u1 u2 u1 u2 (fsL s a M) (ksL s a M)) ∧ Gr w0 w2) :=
        fun N H F1 F2 base w0 w' g h1 h2 h3 h4 h5 h6 => changesN_any A M adM capM N H F1 F2 base s a w0 w' (h.m.gr g) hmk h1 h2 h3 h4 h5 h6
      have HTG : Hid (∀ (a1 a2 : Option Addr) (c1 c2 : Nat) (w' : World), IntsAt w' a1 (fsL s a M) → IntsAt w' a2 (ksL s a M) → Calls Try.prog 36 #[.slice a1 (fsL s a M).length c1, .slice a2 (ksL s a M).length c2] w' fun e w2 => e = .returned (.tuple #[.int .i64 (Csh.sumE (fsL s a M)), .int .i64 (Csh.sumE (ksL s a M)), .int .i64 0]) ∧ w2 = w') := fun a1 a2 c1 c2 w' h1 h2 => by
        have r := fs_rng s a hM.om
        have l := fs_len s a M
        have h5 := hM.lm
        have ss := fs_sum s a hM
        exact together_any _ _ a1 a2 c1 c2 w' h1 h2 (by omega) (by omega) (fun x hx => by have := r.1 x hx; omega) (fun x hx => by have := r.2 x hx; omega) (by omega) (by omega)
      generalize Led.pos (Led.nm A) s = p at *
      generalize Csh.sumE (fsL s a M) = r1 at *
      generalize Csh.sumE (ksL s a M) = r2 at *
      generalize fsL s a M = fs at *
      generalize ksL s a M = ks at *
      clear h hm hM hb hE hF hK hmk
      go_enter Try.func12, Try.ntmps12
      go_wp2_with fail
      refine (HM.out _ ((Gr.refl _).alloc.alloc.alloc)).mono ?_
      rintro e w1 ⟨rfl, hg1⟩
      have g1 : Gr w w1 := (by repeat (first | exact Gr.refl _ | refine Gr.alloc ?_ | refine Gr.drew ?_ | refine Gr.trans ?_ (by assumption)))
      have HB1 : Hid (TwoAt w1 w.heap.size (.slice adA A.length capA) (.slice adM M.length capM)) := (((TwoAt.new w _ _ 25 _ rfl).gr (Gr.refl _).alloc).gr (Gr.refl _).alloc).gr hg1
      obtain ⟨b0, b1, _, _, bl⟩ := HB1.out
      have n0 : w1.cell? ⟨w.heap.size + 1, 0, none⟩ = some (.string s) := hg1.keep ((Gr.refl _).alloc.keep (one_at (w.alloc _) (.string s) _ (w.heap.size + 1) (by simp)))
      have h0 : w1.cell? ⟨w.heap.size + 1 + 1, 0, none⟩ = some (.string a) := hg1.keep (one_at ((w.alloc _).alloc _) (.string a) _ (w.heap.size + 1 + 1) (by simp))
      have nl : w.heap.size + 1 < w1.heap.size := World.block_lt_of_cell? w1 _ n0
      clear hg1
      go_wp2_with fail
      refine (HF.out _ g1).mono ?_
      rintro e w2 ⟨rfl, hg2⟩
      have g2 : Gr w w2 := g1.trans hg2
      have HB2 : Hid (TwoAt w2 w.heap.size (.slice adA A.length capA) (.slice adM M.length capM)) := HB1.out.gr hg2
      have HN0 : Hid (w2.cell? ⟨w.heap.size + 1, 0, none⟩ = some (.string s)) := hg2.keep n0
      have HH0 : Hid (w2.cell? ⟨w.heap.size + 1 + 1, 0, none⟩ = some (.string a)) := hg2.keep h0
      clear hg2 b0 b1 bl n0 nl h0 HB1 g1
      obtain ⟨b0, b1, _, _, bl⟩ := HB2.out
      have HNM : Hid (NetM ((w2.alloc (.cells #[.slice none 0 0] 71)).alloc (.cells #[.slice none 0 0] 71)) (w2.heap.size + 1 + 1) w2.heap.size (w2.heap.size + 1) (.slice none 0 0) (.slice none 0 0) (.slice none 0 0) (.slice none 0 0) [] []) :=
        ⟨by simp, by simp, by simp, by simp, own_none _ _ _ _, own_none _ _ _ _, (fun g e => by cases e), by omega, by omega, by omega, by simp⟩
      go_wp2_with fail
      refine (HCH.out (w.heap.size + 1) (w.heap.size + 1 + 1) w2.heap.size (w2.heap.size + 1) (w2.heap.size + 1 + 1) w2 _ g2 HN0.out HH0.out (by omega) (by omega) (Gr.refl _).alloc.alloc HNM.out).mono ?_
      rintro e w3 ⟨rfl, ⟨u1, u2, hn3⟩, hg3⟩
      have g3 : Gr w w3 := g2.trans hg3
      obtain ⟨a1, c1, rfl, _, hi1⟩ := own_ints (l := fs) hn3.o1
      obtain ⟨a2, c2, rfl, _, hi2⟩ := own_ints (l := ks) hn3.o2
      have HT3 : Hid (Calls Try.prog 36 #[.slice a1 fs.length c1, .slice a2 ks.length c2] w3 fun e w2 => e = .returned (.tuple #[.int .i64 r1, .int .i64 r2, .int .i64 0]) ∧ w2 = w3) := HTG.out a1 a2 c1 c2 w3 hi1 hi2
      have k1 := hn3.c1
      have k2 := hn3.c2
      have kl := hn3.bs
      clear hn3 hg3 hi1 hi2 HNM HCH HTG b0 b1 bl HB2 g2
      go_wp2_with fail
      refine HT3.out.mono ?_
      rintro e w4 ⟨rfl, hw4⟩; obtain rfl := hw4.symm
      go_wp2
      exact bodyPost_ret (v := .tuple #[.int .i64 r1, .int .i64 r2, .int .i64 0]) (by simp [results, Try.results12, go_sem, *]) rfl ⟨rfl, g3⟩
end Go.Proofs.Ytgidkmipecfjhaa
namespace Go.Proofs.Ytgidkmipecfjhaa
open Led (Acc Mk)
theorem eff_all (s : ByteArray) (m : Mk) : effB s ⟨#[]⟩ m = Led.eff s m := by
  unfold effB Led.eff
  have : Lib.hasPrefix m.key.data.toList (⟨#[]⟩ : ByteArray).data.toList = true := rfl
  rw [this, Bool.and_true]
theorem net_all (s : ByteArray) : ∀ M : List Mk, Csh.sumE (fsL s ⟨#[]⟩ M) = Led.sm (Led.gNF s) M ∧ Csh.sumE (ksL s ⟨#[]⟩ M) = Led.sm (Led.gNK s) M
  | [] => ⟨rfl, rfl⟩
  | m :: t => by
    obtain ⟨h1, h2⟩ := net_all s t
    have e1 : Led.sm (Led.gNF s) (m :: t) = Led.gNF s m + Led.sm (Led.gNF s) t := rfl
    have e2 : Led.sm (Led.gNK s) (m :: t) = Led.gNK s m + Led.sm (Led.gNK s) t := rfl
    rw [e1, e2, ← h1, ← h2]
    unfold fsL ksL Led.gNF Led.gNK
    rw [List.filter_cons, eff_all]
    cases Led.eff s m with
    | true => exact ⟨rfl, rfl⟩
    | false => simp
end Go.Proofs.Ytgidkmipecfjhaa
namespace Go.Proofs.Ytgidkmipecfjhaa
open Go.RowKit
open Led (Acc Mk)
theorem bal_one {A : List Acc} {M : List Mk} {F : List (ByteArray × Int)} (hm : Led.May A M) (hb : Bal A M F) (k : Nat) (hk : k < F.length) :
    ∃ x : Acc, x ∈ A ∧ findE A M F[k].1 = x ∧ findB A M F[k].1 = true ∧ x.s = F[k].1 ∧ x.a = F[k].2 + Led.sm (Led.gNF F[k].1) M ∧ x.x = Led.sm (Led.gNK F[k].1) M ∧ (0 ≤ x.a ∧ x.a ≤ 1000000000000000) ∧ netE A M F[k].1 = 0 ∧ netF A M F[k].1 ⟨#[]⟩ = Led.sm (Led.gNF F[k].1) M ∧ netK A M F[k].1 ⟨#[]⟩ = Led.sm (Led.gNK F[k].1) M := by
  obtain ⟨x, hx1, hx2, hx3, hx4⟩ := hb.2 F[k] (List.getElem_mem hk)
  have hmB : Led.mayB A M = true := (Led.may_iff A M).2 hm
  obtain ⟨j, hj, rfl⟩ := List.getElem_of_mem hx1
  have hjn : j < (Led.nm A).length := by rw [Led.nm_len]; exact hj
  have hnm : (Led.nm A)[j] = F[k].1 := by rw [Led.nm_get A j hj]; exact hx2
  have hhas : Led.hasB (Led.nm A) F[k].1 = true := (Led.has_iff _ _).2 (by rw [← hnm]; exact List.getElem_mem hjn)
  have hpos : Led.pos (Led.nm A) F[k].1 = j := Led.pos_eq hm.ua j hjn hnm
  have hr := (Act.acc_rng (hm.oa _ hx1)).1
  have hE : netE A M F[k].1 = 0 := by unfold netE; rw [if_pos hmB, if_pos hhas]
  refine ⟨A[j], hx1, ?_, ?_, hx2, hx3, hx4, hr, hE, ?_, ?_⟩
  · unfold findE
    rw [if_pos hmB, if_pos hhas, hpos, List.getD_eq_getElem?_getD, List.getElem?_eq_getElem hj]; rfl
  · unfold findB; rw [hmB, hhas]; rfl
  · unfold netF; rw [if_pos hE]; exact (net_all _ M).1
  · unfold netK; rw [if_pos hE]; exact (net_all _ M).2
theorem hold3 {a b : World} (g : Gr a b) {q0 q1 q2 : Addr} {v0 v1 v2 : Value} (h0 : a.cell? q0 = some v0) (h1 : a.cell? q1 = some v1) (h2 : a.cell? q2 = some v2) : Gr a b ∧ b.cell? q0 = some v0 ∧ b.cell? q1 = some v1 ∧ b.cell? q2 = some v2 := ⟨g, g.keep h0, g.keep h1, g.keep h2⟩
end Go.Proofs.Ytgidkmipecfjhaa
