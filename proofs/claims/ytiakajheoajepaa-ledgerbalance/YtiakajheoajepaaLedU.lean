/- The laws' opened: the ledger behind all calls, and what was opened. -/
import Derived.Test.YtiakajheoajepaaLedT
import Derived.Test.YtiakajheoajepaaBalM
import Derived.Test.YtiakajheoajepaaNetB
namespace Go.Proofs.Ytiakajheoajepaa
open Go.ChangeShapes Go.WideShapes Go.ChangeAt Go.RowKit
open Led (Acc Mk)

def fA (q : ByteArray × Int) : Acc := newA q.1 q.2
def fV (F : List (ByteArray × Int)) : List Value := (F.map fA).flatMap accC
theorem fV_app (F G : List (ByteArray × Int)) : fV (F ++ G) = fV F ++ fV G := by simp [fV]
theorem fV_one (F : List (ByteArray × Int)) : ∀ u ∈ fV F, u.oneCell' = true := acc_one _
theorem f_lit (w : World) (s : ByteArray) (n : Int) (t : TypeId) : ∀ j u, (fV [(s, n)])[j]? = some u → (w.alloc (.cells #[.string s, .int .i64 n, .int .i64 0, .int .i64 0, .int .i64 0, .int .i64 0, .int .i64 0] t)).cell? ((⟨w.heap.size, 0, none⟩ : Addr).add j) = some u := by
  intro j u hu
  have hj : j < 7 := by
    have := (List.getElem?_eq_some_iff.1 hu).1
    simpa [fV, fA, accC] using this
  rw [Addr.add_lit]
  match j, hj with
  | 0, _ => simp [fV, fA, newA, accC] at hu; subst hu; simp
  | 1, _ => simp [fV, fA, newA, accC] at hu; subst hu; simp
  | 2, _ => simp [fV, fA, newA, accC] at hu; subst hu; simp
  | 3, _ => simp [fV, fA, newA, accC] at hu; subst hu; simp
  | 4, _ => simp [fV, fA, newA, accC] at hu; subst hu; simp
  | 5, _ => simp [fV, fA, newA, accC] at hu; subst hu; simp
  | 6, _ => simp [fV, fA, newA, accC] at hu; subst hu; simp

/- rows that lie not in a row's own block -/
def Apart (fv : Value) (a1 a2 : Option Addr) (A : List Acc) (M : List Mk) : Prop := ∀ g, fv.ownBlock = some g → Off g a1 A ∧ Off g a2 M
theorem RowAt.grown {α : Type} {f : α → List Value} {w w' : World} {ad : Option Addr} {L : List α} {r : Option Nat} (h : RowAt f w ad L) (k : w.grownBy w' r) (hr : ∀ g, r = some g → Off g ad L) : RowAt f w' ad L := by
  intro j u hu
  obtain ⟨b, off, e, hb, hc⟩ := h j u hu
  refine ⟨b, off, e, Nat.lt_of_lt_of_le hb k.size, k.cell hc ?_⟩
  intro e2
  rcases hr b e2.symm with h0 | h0
  · subst h0; simp at hu
  · exact h0 _ e rfl

theorem gr_grown {a b c : World} {r : Option Nat} (h : Gr a b) (k : b.grownBy c r) : a.grownBy c r := by
  have := h.size
  exact ⟨k.os.trans h.below.os, k.tape.trans h.below.tape, k.output.trans h.below.output, Nat.le_trans h.size k.size, fun i hi hne => (k.block i (by omega) hne).trans (h.below.block i hi)⟩
theorem gr_grown2 {a b : World} (r : Option Nat) (h : Gr a b) : a.grownBy b r := ⟨h.below.os, h.below.tape, h.below.output, h.size, fun i hi _ => h.below.block i hi⟩
/- where the loop stands -/
structure OpI (w wr : World) (k : Nat) (A : List Acc) (M : List Mk) (F : List (ByteArray × Int)) (a1 : Option Addr) (c1 : Nat) (a2 : Option Addr) (c2 : Nat) (fv : Value) : Prop where
  may : Led.May A M
  bal : Bal A M F
  r1 : AccsAt wr a1 A
  r2 : MksAt wr a2 M
  bx : TwoAt wr (w.heap.size + 1) (.slice a1 A.length c1) (.slice a2 M.length c2)
  rs : TwoAt wr w.heap.size (.slice none 0 0) (.slice none 0 0)
  o1 : Off (w.heap.size + 1) a1 A
  o2 : Off (w.heap.size + 1) a2 M
  p1 : Off w.heap.size a1 A
  p2 : Off w.heap.size a2 M
  own : wr.ownsRow (w.heap.size + 2) 31 7 fv F.length (fV F)
  ap : Apart fv a1 a2 A M
  g : Gr w wr

/- what opened answers -/
def OpR (w : World) (e : Ending) (w' : World) : Prop := ∃ (A : List Acc) (M : List Mk) (F : List (ByteArray × Int)) (a1 : Option Addr) (c1 : Nat) (a2 : Option Addr) (c2 : Nat) (a3 : Option Addr) (c3 : Nat), e = .returned (.tuple #[.agg #[.slice a1 A.length c1, .slice a2 M.length c2], .slice a3 F.length c3]) ∧ Led.May A M ∧ Bal A M F ∧ AccsAt w' a1 A ∧ MksAt w' a2 M ∧ AccsAt w' a3 (F.map fA) ∧ Gr w w'

set_option maxHeartbeats 8000000 in
set_option maxRecDepth 100000 in
theorem opened_any (T : List Cal) (ad : Option Addr) (cap : Nat) (w : World) (hA : CalsAt w ad T) (hn : T.length ≤ 9223372036854775807) (hT : ∀ q ∈ T, inC q) :
    Calls Try.prog 28 #[.slice ad T.length cap] w fun e w' => OpR w e w' := by
  obtain ⟨i0, hi, hz0, hz1, hz2⟩ := info_parts infoAcc
  have HAA : Hid (CalsAt w ad T) := hA
  have HT : Hid (∀ q ∈ T, inC q) := hT
  have HI0 : Hid (OpI w ((w.alloc (.cells #[.slice none 0 0, .slice none 0 0] 25)).alloc (.cells #[.slice none 0 0, .slice none 0 0] 25)) 0 [] [] [] none 0 none 0 (.slice none 0 0)) :=
    ⟨(Led.may_iff _ _).1 (by decide +kernel), ⟨rfl, (fun q hq => by cases hq)⟩, RowAt.nil, RowAt.nil, TwoAt.new _ _ _ _ _ (by simp), (TwoAt.new w _ _ _ _ rfl).gr (Gr.refl _).alloc, Or.inl rfl, Or.inl rfl, Or.inl rfl, Or.inl rfl, World.ownsRow_nil _ _ _ _, (fun g e => by cases e), (Gr.refl _).alloc.alloc⟩
  clear hA hT
  go_enter Try.func28, Try.ntmps28
  go_wp2
  go_loopw [5, 6] (fun fv ix wr => ∃ (k : Nat) (A : List Acc) (M : List Mk) (F : List (ByteArray × Int)) (a1 : Option Addr) (c1 : Nat) (a2 : Option Addr) (c2 : Nat), k ≤ T.length ∧ ix = .int .i64 (k : Int) ∧ OpI w wr k A M F a1 c1 a2 c2 fv)
    (fun _ ix _ => T.length - (intOf ix).toNat)
  case atStart => exact ⟨0, [], [], [], none, 0, none, 0, by omega, rfl, HI0.out⟩
  case round =>
    obtain ⟨k, A, M, F, a1, c1, a2, c2, hk, rfl, hI⟩ := hrel
    have HI : Hid (OpI w wr k A M F a1 c1 a2 c2 u5) := hI
    clear hI HI0
    by_cases hlt : k < T.length
    · obtain ⟨bb, off, rfl, hbl, e0, e1, e2, e3, e4⟩ := HAA.out k hlt
      have hq := HT.out T[k] (List.getElem_mem hlt)
      obtain ⟨q, hqe⟩ : ∃ q, T[k] = q := ⟨_, rfl⟩
      rw [hqe] at e0 e1 e2 e3 e4 hq
      have HD : Hid (DoesAt wr a1 c1 a2 c2 A M q (stA A M q) (stM A M q) (decide (stE A M q = 0))) := does_at (led_of HI.out.may HI.out.r1 HI.out.r2) hq
      have HMM : Hid (Led.May (stA A M q) (stM A M q)) := st_may HI.out.may q
      have HBB : Hid (Bal (stA A M q) (stM A M q) (stF A M F q)) := bal_st HI.out.bal q
      have HST : Hid (stF A M F q = if decide (stE A M q = 0) = true ∧ q.kd = 0 then F ++ [(q.t, q.n)] else F) := by
        show _ = _
        unfold stF
        by_cases h : stE A M q = 0 <;> simp [h]
      generalize stA A M q = A' at *
      generalize stM A M q = M' at *
      generalize stF A M F q = F' at *
      generalize decide (stE A M q = 0) = ok at *
      have hki : (k : Int) < (T.length : Int) := by omega
      have d0 := HI.out.g.keep e0
      have d1 := HI.out.g.keep e1
      have d2 := HI.out.g.keep e2
      have d3 := HI.out.g.keep e3
      have d4 := HI.out.g.keep e4
      have hbw : bb < wr.heap.size := Nat.lt_of_lt_of_le hbl HI.out.g.size
      clear hqe e0 e1 e2 e3 e4 hq
      obtain ⟨x0, x1, xf0, xf1, xl⟩ := HI.out.bx
      go_upto_region 6 with fail
      go_cut [7, 8] (fun sp se wx => ∃ (Q : Nat) (b1 : Option Addr) (s1 : Nat) (b2 : Option Addr) (s2 : Nat), sp = .pointer (some ⟨Q, 0, none⟩) ∧ se = .bool ok ∧ wr.heap.size ≤ Q ∧ TwoAt wx Q (.slice b1 A'.length s1) (.slice b2 M'.length s2) ∧ AccsAt wx b1 A' ∧ MksAt wx b2 M' ∧ (∀ g, g < wr.heap.size → Off g a1 A → Off g b1 A') ∧ (∀ g, g < wr.heap.size → Off g a2 M → Off g b2 M') ∧ Gr wr wx)
      case first =>
        refine wp_region_held_drew (S := (fun w' => Gr wr w' ∧ w'.cell? ⟨(w.heap.size + 1), 0, none⟩ = some (.slice a1 A.length c1) ∧ w'.cell? ⟨(w.heap.size + 1), 1, none⟩ = some (.slice a2 M.length c2) ∧ w'.cell? ⟨bb, off + k * 5, none⟩ = some (.int .i64 q.kd) ∧ w'.cell? ⟨bb, off + k * 5 + 1, none⟩ = some (.string q.key) ∧ w'.cell? ⟨bb, off + k * 5 + 2, none⟩ = some (.int .i64 q.k) ∧ w'.cell? ⟨bb, off + k * 5 + 3, none⟩ = some (.string q.t) ∧ w'.cell? ⟨bb, off + k * 5 + 4, none⟩ = some (.int .i64 q.n))) (by kernel_rfl) (by exact hold7o (by (repeat' (first | with_reducible exact Gr.refl _ | with_reducible refine Gr.set ?_ _ ?_ _ | with_reducible refine Gr.alloc ?_ | with_reducible refine Gr.drew ?_ | with_reducible refine Gr.trans ?_ (by assumption))) <;> (first | (simp; done) | (simp; omega) | omega)) x0 x1 d0 d1 d2 d3 d4) (fun hHeld => ?_)
        refine take_yes 0 17 (v := ?_) rfl rfl (by kernel_rfl) (by kernel_rfl) (by kernel_rfl) (fun _ _ _ h => h) (by rfl) ?_ hHeld ?_
        rotate_left
        · (intro w hSw; (try dsimp only at hSw); go_simp; try with_reducible rfl)
        simp only [Act.put, List.setIfInBounds_toArray, List.set_cons_zero, List.set_cons_succ]
        refine take_yes 1 18 (v := ?_) rfl rfl (by kernel_rfl) (by kernel_rfl) (by kernel_rfl) (fun _ _ _ h => h) (by rfl) ?_ hHeld ?_
        rotate_left
        · (intro w hSw; (try dsimp only at hSw); go_simp; try with_reducible rfl)
        simp only [Act.put, List.setIfInBounds_toArray, List.set_cons_zero, List.set_cons_succ]
        refine take_yes 2 19 (v := ?_) rfl rfl (by kernel_rfl) (by kernel_rfl) (by kernel_rfl) (fun _ _ _ h => h) (by rfl) ?_ hHeld ?_
        rotate_left
        · (intro w hSw; (try dsimp only at hSw); go_simp; try with_reducible rfl)
        simp only [Act.put, List.setIfInBounds_toArray, List.set_cons_zero, List.set_cons_succ]
        refine take_yes 3 20 (v := ?_) rfl rfl (by kernel_rfl) (by kernel_rfl) (by kernel_rfl) (fun _ _ _ h => h) (by rfl) ?_ hHeld ?_
        rotate_left
        · (intro w hSw; (try dsimp only at hSw); go_simp; try with_reducible rfl)
        simp only [Act.put, List.setIfInBounds_toArray, List.set_cons_zero, List.set_cons_succ]
        refine take_yes 4 21 (v := ?_) rfl rfl (by kernel_rfl) (by kernel_rfl) (by kernel_rfl) (fun _ _ _ h => h) (by rfl) ?_ hHeld ?_
        rotate_left
        · (intro w hSw; (try dsimp only at hSw); go_simp; try with_reducible rfl)
        simp only [Act.put, List.setIfInBounds_toArray, List.set_cons_zero, List.set_cons_succ]
        refine wpAnyH_ready (rs := [5, 9]) (by kernel_rfl) (by simp) (AllReadyH.cons rfl (fun K hK => ?_) (AllReadyH.cons rfl (fun K hK => ?_) AllReadyH.nil))
        · skip
          go_simp
          (go_at_call 27; refine (HD.out _ (by (repeat' (first | with_reducible exact Gr.refl _ | with_reducible refine Gr.set ?_ _ ?_ _ | with_reducible refine Gr.alloc ?_ | with_reducible refine Gr.drew ?_ | with_reducible refine Gr.trans ?_ (by assumption))) <;> (first | (simp; done) | (simp; omega) | omega))).mono ?_; rintro e wn ⟨b1, s1, b2, s2, rfl, hi1, hi2, hf1, hf2, hgn⟩; have hzn := hgn.size; simp at hzn; have HI1 : Hid (AccsAt wn b1 A') := hi1; have HI2 : Hid (MksAt wn b2 M') := hi2; have HF1 : Hid (Fr _ a1 b1 A A') := hf1; have HF2 : Hid (Fr _ a2 b2 M M') := hf2; clear hi1 hi2 hf1 hf2)
          (try go_wp2_with fail)
          refine hK.out _ _ (by exact hold7o (by (repeat' (first | with_reducible exact Gr.refl _ | with_reducible refine Gr.set ?_ _ ?_ _ | with_reducible refine Gr.alloc ?_ | with_reducible refine Gr.drew ?_ | with_reducible refine Gr.trans ?_ (by assumption))) <;> (first | (simp; done) | (simp; omega) | omega)) x0 x1 d0 d1 d2 d3 d4) (fun hHeldN => ?_)
          clear hHeld hK K
          have hHeld := hHeldN
          clear hHeldN
          refine take_yes 6 16 (v := ?_) rfl rfl (by kernel_rfl) (by kernel_rfl) (by kernel_rfl) (fun _ _ _ h => h) (by rfl) ?_ hHeld ?_
          rotate_left
          · (intro w hSw; (try dsimp only at hSw); go_simp; try with_reducible rfl)
          simp only [Act.put, List.setIfInBounds_toArray, List.set_cons_zero, List.set_cons_succ]
          refine take_yes 7 23 (v := ?_) rfl rfl (by kernel_rfl) (by kernel_rfl) (by kernel_rfl) (fun _ _ _ h => h) (by rfl) ?_ hHeld ?_
          rotate_left
          · (intro w hSw; (try dsimp only at hSw); go_simp; try with_reducible rfl)
          simp only [Act.put, List.setIfInBounds_toArray, List.set_cons_zero, List.set_cons_succ]
          refine take_yes 8 24 (v := ?_) rfl rfl (by kernel_rfl) (by kernel_rfl) (by kernel_rfl) (fun _ _ _ h => h) (by rfl) ?_ hHeld ?_
          rotate_left
          · (intro w hSw; (try dsimp only at hSw); go_simp; try with_reducible rfl)
          simp only [Act.put, List.setIfInBounds_toArray, List.set_cons_zero, List.set_cons_succ]
          refine wpAnyH_ready (rs := [9]) (by kernel_rfl) (by simp) (AllReadyH.cons rfl (fun K hK => ?_) AllReadyH.nil)
          go_simp
          refine hK.out _ _ (by exact hold7o (by (repeat' (first | with_reducible exact Gr.refl _ | with_reducible refine Gr.set ?_ _ ?_ _ | with_reducible refine Gr.alloc ?_ | with_reducible refine Gr.drew ?_ | with_reducible refine Gr.trans ?_ (by assumption))) <;> (first | (simp; done) | (simp; omega) | omega)) x0 x1 d0 d1 d2 d3 d4) (fun hHeldN => ?_)
          clear hHeld hK K
          have hHeld := hHeldN
          clear hHeldN
          refine wpAnyH_ready (rs := [10]) (by kernel_rfl) (by simp) (AllReadyH.cons rfl (fun K hK => ?_) AllReadyH.nil)
          go_simp
          refine hK.out _ _ (by exact hold7o (by (repeat' (first | with_reducible exact Gr.refl _ | with_reducible refine Gr.set ?_ _ ?_ _ | with_reducible refine Gr.alloc ?_ | with_reducible refine Gr.drew ?_ | with_reducible refine Gr.trans ?_ (by assumption))) <;> (first | (simp; done) | (simp; omega) | omega)) x0 x1 d0 d1 d2 d3 d4) (fun hHeldN => ?_)
          clear hHeld hK K
          have hHeld := hHeldN
          clear hHeldN
          refine take_yes 11 8 (v := ?_) rfl rfl (by kernel_rfl) (by kernel_rfl) (by kernel_rfl) (fun _ _ _ h => h) (by rfl) ?_ hHeld ?_
          rotate_left
          · (intro w hSw; (try dsimp only at hSw); go_simp; try with_reducible rfl)
          simp only [Act.put, List.setIfInBounds_toArray, List.set_cons_zero, List.set_cons_succ]
          refine wpAnyH_done (by kernel_rfl) ?_ _
          go_wp2_with fail
          go_meet
          exact ⟨_, b1, s1, b2, s2, rfl, rfl, by omega, TwoAt.new wn _ _ _ _ rfl, RowAt.alloc HI1.out, RowAt.alloc HI2.out, (fun g hg h => off_fr h HF1.out (by simp; omega)), (fun g hg h => off_fr h HF2.out (by simp; omega)), (by (repeat' (first | with_reducible exact Gr.refl _ | with_reducible refine Gr.set ?_ _ ?_ _ | with_reducible refine Gr.alloc ?_ | with_reducible refine Gr.drew ?_ | with_reducible refine Gr.trans ?_ (by assumption))) <;> (first | (simp; done) | (simp; omega) | omega))⟩
        · skip
          go_simp
          refine hK.out _ _ (by exact hold7o (by (repeat' (first | with_reducible exact Gr.refl _ | with_reducible refine Gr.set ?_ _ ?_ _ | with_reducible refine Gr.alloc ?_ | with_reducible refine Gr.drew ?_ | with_reducible refine Gr.trans ?_ (by assumption))) <;> (first | (simp; done) | (simp; omega) | omega)) x0 x1 d0 d1 d2 d3 d4) (fun hHeldN => ?_)
          clear hHeld hK K
          have hHeld := hHeldN
          clear hHeldN
          refine wpAnyH_ready (rs := [5]) (by kernel_rfl) (by simp) (AllReadyH.cons rfl (fun K hK => ?_) AllReadyH.nil)
          go_simp
          (go_at_call 27; refine (HD.out _ (by (repeat' (first | with_reducible exact Gr.refl _ | with_reducible refine Gr.set ?_ _ ?_ _ | with_reducible refine Gr.alloc ?_ | with_reducible refine Gr.drew ?_ | with_reducible refine Gr.trans ?_ (by assumption))) <;> (first | (simp; done) | (simp; omega) | omega))).mono ?_; rintro e wn ⟨b1, s1, b2, s2, rfl, hi1, hi2, hf1, hf2, hgn⟩; have hzn := hgn.size; simp at hzn; have HI1 : Hid (AccsAt wn b1 A') := hi1; have HI2 : Hid (MksAt wn b2 M') := hi2; have HF1 : Hid (Fr _ a1 b1 A A') := hf1; have HF2 : Hid (Fr _ a2 b2 M M') := hf2; clear hi1 hi2 hf1 hf2; have hbz := ((TwoAt.new wr _ _ _ _ rfl).gr (Gr.refl _).drew).gr hgn; have HBZ : Hid (TwoAt wn wr.heap.size _ _) := hbz; obtain ⟨z0, z1, zf0, zf1, zl⟩ := hbz)
          (try go_wp2_with fail)
          refine hK.out _ _ (by exact hold7o (by (repeat' (first | with_reducible exact Gr.refl _ | with_reducible refine Gr.set ?_ _ ?_ _ | with_reducible refine Gr.alloc ?_ | with_reducible refine Gr.drew ?_ | with_reducible refine Gr.trans ?_ (by assumption))) <;> (first | (simp; done) | (simp; omega) | omega)) x0 x1 d0 d1 d2 d3 d4) (fun hHeldN => ?_)
          clear hHeld hK K
          have hHeld := hHeldN
          clear hHeldN
          refine take_yes 6 16 (v := ?_) rfl rfl (by kernel_rfl) (by kernel_rfl) (by kernel_rfl) (fun _ _ _ h => h) (by rfl) ?_ hHeld ?_
          rotate_left
          · (intro w hSw; (try dsimp only at hSw); go_simp; try with_reducible rfl)
          simp only [Act.put, List.setIfInBounds_toArray, List.set_cons_zero, List.set_cons_succ]
          refine take_yes 7 23 (v := ?_) rfl rfl (by kernel_rfl) (by kernel_rfl) (by kernel_rfl) (fun _ _ _ h => h) (by rfl) ?_ hHeld ?_
          rotate_left
          · (intro w hSw; (try dsimp only at hSw); go_simp; try with_reducible rfl)
          simp only [Act.put, List.setIfInBounds_toArray, List.set_cons_zero, List.set_cons_succ]
          refine take_yes 8 24 (v := ?_) rfl rfl (by kernel_rfl) (by kernel_rfl) (by kernel_rfl) (fun _ _ _ h => h) (by rfl) ?_ hHeld ?_
          rotate_left
          · (intro w hSw; (try dsimp only at hSw); go_simp; try with_reducible rfl)
          simp only [Act.put, List.setIfInBounds_toArray, List.set_cons_zero, List.set_cons_succ]
          refine wpAnyH_ready (rs := [10]) (by kernel_rfl) (by simp) (AllReadyH.cons rfl (fun K hK => ?_) AllReadyH.nil)
          go_simp
          refine hK.out _ _ (by exact hold7o (by (repeat' (first | with_reducible exact Gr.refl _ | with_reducible refine Gr.set ?_ _ ?_ _ | with_reducible refine Gr.alloc ?_ | with_reducible refine Gr.drew ?_ | with_reducible refine Gr.trans ?_ (by assumption))) <;> (first | (simp; done) | (simp; omega) | omega)) x0 x1 d0 d1 d2 d3 d4) (fun hHeldN => ?_)
          clear hHeld hK K
          have hHeld := hHeldN
          clear hHeldN
          refine take_yes 11 8 (v := ?_) rfl rfl (by kernel_rfl) (by kernel_rfl) (by kernel_rfl) (fun _ _ _ h => h) (by rfl) ?_ hHeld ?_
          rotate_left
          · (intro w hSw; (try dsimp only at hSw); go_simp; try with_reducible rfl)
          simp only [Act.put, List.setIfInBounds_toArray, List.set_cons_zero, List.set_cons_succ]
          refine wpAnyH_done (by kernel_rfl) ?_ _
          go_wp2_with fail
          go_meet
          exact ⟨_, b1, s1, b2, s2, rfl, rfl, by omega, HBZ.out.set2 _ _, (RowAt.setOff HI1.out _ _ (off_fr (off_new accC_len (by decide) HI.out.r1 (Nat.le_refl _)) HF1.out (by simp))).setOff _ _ (off_fr (off_new accC_len (by decide) HI.out.r1 (Nat.le_refl _)) HF1.out (by simp)), (RowAt.setOff HI2.out _ _ (off_fr (off_new mkC_len (by decide) HI.out.r2 (Nat.le_refl _)) HF2.out (by simp))).setOff _ _ (off_fr (off_new mkC_len (by decide) HI.out.r2 (Nat.le_refl _)) HF2.out (by simp)), (fun g hg h => off_fr h HF1.out (by simp; omega)), (fun g hg h => off_fr h HF2.out (by simp; omega)), (by (repeat' (first | with_reducible exact Gr.refl _ | with_reducible refine Gr.set ?_ _ ?_ _ | with_reducible refine Gr.alloc ?_ | with_reducible refine Gr.drew ?_ | with_reducible refine Gr.trans ?_ (by assumption))) <;> (first | (simp; done) | (simp; omega) | omega))⟩
      case rest =>
      obtain ⟨wp, rfl⟩ : ∃ x, x = wc := ⟨_, rfl⟩
      obtain ⟨Q, b1, s1, b2, s2, rfl, rfl, hQ, hZ, hz1, hz2, hz3, hz4, hgc⟩ := hcut
      have hrl : w.heap.size + 1 < wr.heap.size := HI.out.bx.lt
      have HZ : Hid (TwoAt wp Q (.slice b1 A'.length s1) (.slice b2 M'.length s2)) := hZ
      have HBX : Hid (TwoAt wp (w.heap.size + 1) (.slice a1 A.length c1) (.slice a2 M.length c2)) := HI.out.bx.gr hgc
      have HIP : Hid (∀ (W : World) (fv : Value) (F2 : List (ByteArray × Int)), wp.grownBy W u5.ownBlock → Bal A' M' F2 → W.ownsRow (w.heap.size + 2) 31 7 fv F2.length (fV F2) → (fv.ownBlock = u5.ownBlock ∨ ∀ g, fv.ownBlock = some g → wp.heap.size ≤ g) → Gr w W → OpI w ((W.setCell ⟨w.heap.size + 1, 0, none⟩ (.slice b1 A'.length s1)).setCell ⟨w.heap.size + 1, 1, none⟩ (.slice b2 M'.length s2)) (k + 1) A' M' F2 b1 s1 b2 s2 fv) := by
        intro W fv F2 hgr hbal how hwh hgW
        have ne : ∀ i, i < w.heap.size + 2 → some i ≠ u5.ownBlock := fun i hi e => by have := (HI.out.own.lt _ e.symm).1; omega
        have ne2 : ∀ i, i < w.heap.size + 2 → fv.ownBlock ≠ some i := fun i hi e => by have := (how.lt _ e).1; omega
        have of1 : ∀ g, u5.ownBlock = some g → Off g b1 A' := fun g e => hz3 g (HI.out.own.lt _ e).2 (HI.out.ap g e).1
        have of2 : ∀ g, u5.ownBlock = some g → Off g b2 M' := fun g e => hz4 g (HI.out.own.lt _ e).2 (HI.out.ap g e).2
        have q1 : Off (w.heap.size + 1) b1 A' := hz3 _ hrl HI.out.o1
        have q2 : Off (w.heap.size + 1) b2 M' := hz4 _ hrl HI.out.o2
        refine ⟨HMM.out, hbal, ((RowAt.grown hz1 hgr of1).setOff _ _ q1).setOff _ _ q1, ((RowAt.grown hz2 hgr of2).setOff _ _ q2).setOff _ _ q2, ((HBX.out.grown hgr (ne _ (by omega))).set2 _ _), ?_, q1, q2, hz3 _ (by omega) HI.out.p1, hz4 _ (by omega) HI.out.p2, own_far (own_far how _ _ (ne2 _ (by simp))) _ _ (ne2 _ (by simp)), ?_, (hgW.set _ (by simp) _).set _ (by simp) _⟩
        · exact ((((HI.out.rs.gr hgc).grown hgr (ne _ (by omega))).far _ _ (by simp)).far _ _ (by simp))
        · intro g e
          rcases hwh with h | h
          · rw [h] at e; exact ⟨of1 g e, of2 g e⟩
          · exact ⟨off_new accC_len (by decide) hz1 (h g e), off_new mkC_len (by decide) hz2 (h g e)⟩
      have HGP : Hid (Gr w wp) := HI.out.g.trans hgc
      have HOP : Hid (wp.ownsRow (w.heap.size + 2) 31 7 u5 F.length (fV F)) := own_gr2 HI.out.own hgc
      have hFl : F.length ≤ 12 := by have h1 := HI.out.bal.1; have h2 := HI.out.may.la; omega
      have d0 := hgc.keep d0
      have d3 := hgc.keep d3
      have d4 := hgc.keep d4
      have hbw : bb < wp.heap.size := Nat.lt_of_lt_of_le hbw hgc.size
      have hwz : w.heap.size + 2 ≤ wp.heap.size := by have := hgc.size; omega
      have HUL : Hid (∀ g, u5.ownBlock = some g → g < wr.heap.size) := fun g e => (HI.out.own.lt g e).2
      clear hgc hZ hz1 hz2 hz3 hz4 x0 x1 xf0 xf1 xl HD HI d1 d2
      obtain ⟨y0, y1, _, _, yl⟩ := HZ.out
      by_cases hgo : ok = true ∧ q.kd = 0
      · obtain ⟨rfl, hkd⟩ := hgo
        have HBF : Hid (Bal A' M' (F ++ [(q.t, q.n)])) := by
          have h1 := HST.out
          rw [if_pos ⟨rfl, hkd⟩] at h1
          have h2 := HBB.out
          rw [h1] at h2
          exact h2
        have hne : (q.kd == 0) = true := by simpa using hkd
        have HQK : Hid (q.kd = 0) := hkd
        clear hkd HBB HST
        go_upto_region 8 with fail
        have hkk : wp.drew.cell? ⟨bb, off + k * 5 + 3, none⟩ = some (.string q.t) ∧ wp.drew.cell? ⟨bb, off + k * 5 + 4, none⟩ = some (.int .i64 q.n) := ⟨d3, d4⟩
        refine wp_region_held_drew (S := (fun w' => w'.cell? ⟨bb, off + k * 5 + 3, none⟩ = some (.string q.t) ∧ w'.cell? ⟨bb, off + k * 5 + 4, none⟩ = some (.int .i64 q.n))) (by kernel_rfl) (by first | with_reducible exact hkk | with_reducible exact ⟨(Gr.refl _).alloc.keep hkk.1, (Gr.refl _).alloc.keep hkk.2⟩) (fun hHeld => ?_)
        obtain ⟨W, hW⟩ : ∃ W, W = wp.drew := ⟨_, rfl⟩
        rw [← hW] at hkk hHeld ⊢
        have gW : Gr wp W := by rw [hW]; exact (Gr.refl _).drew
        have hsW : wp.heap.size = W.heap.size := by rw [hW]; rfl
        have HSW : Hid (wp.heap.size = W.heap.size) := hsW
        clear hW hsW
        refine take_yes 0 34 (v := ?_) rfl rfl (by kernel_rfl) (by kernel_rfl) (by kernel_rfl) (fun _ _ _ h => h) (by rfl) ?_ hHeld ?_
        rotate_left
        · (intro w hSw; (try dsimp only at hSw); go_simp; try with_reducible rfl)
        simp only [Act.put, List.setIfInBounds_toArray, List.set_cons_zero, List.set_cons_succ]
        refine take_yes 1 35 (v := ?_) rfl rfl (by kernel_rfl) (by kernel_rfl) (by kernel_rfl) (fun _ _ _ h => h) (by rfl) ?_ hHeld ?_
        rotate_left
        · (intro w hSw; (try dsimp only at hSw); go_simp; try with_reducible rfl)
        simp only [Act.put, List.setIfInBounds_toArray, List.set_cons_zero, List.set_cons_succ]
        refine take_yes 2 36 (v := ?_) rfl rfl (by kernel_rfl) (by kernel_rfl) (by kernel_rfl) (fun _ _ _ h => h) (by rfl) ?_ hHeld ?_
        rotate_left
        · (intro w hSw; (try dsimp only at hSw); go_simp; try with_reducible rfl)
        simp only [Act.put, List.setIfInBounds_toArray, List.set_cons_zero, List.set_cons_succ]
        refine take_yes 3 37 (v := ?_) rfl rfl (by kernel_rfl) (by kernel_rfl) (by kernel_rfl) (fun _ _ _ h => h) (by rfl) ?_ hHeld ?_
        rotate_left
        · (intro w hSw; (try dsimp only at hSw); go_simp; try with_reducible rfl)
        simp only [Act.put, List.setIfInBounds_toArray, List.set_cons_zero, List.set_cons_succ]
        refine take_yes 4 38 (v := ?_) rfl rfl (by kernel_rfl) (by kernel_rfl) (by kernel_rfl) (fun _ _ _ h => h) (by rfl) ?_ hHeld ?_
        rotate_left
        · (intro w hSw; (try dsimp only at hSw); go_simp; try with_reducible rfl)
        simp only [Act.put, List.setIfInBounds_toArray, List.set_cons_zero, List.set_cons_succ]
        refine take_yes 5 39 (v := ?_) rfl rfl (by kernel_rfl) (by kernel_rfl) (by kernel_rfl) (fun _ _ _ h => h) (by rfl) ?_ hHeld ?_
        rotate_left
        · (intro w hSw; (try dsimp only at hSw); go_simp; try with_reducible rfl)
        simp only [Act.put, List.setIfInBounds_toArray, List.set_cons_zero, List.set_cons_succ]
        refine take_yes 6 40 (v := ?_) rfl rfl (by kernel_rfl) (by kernel_rfl) (by kernel_rfl) (fun _ _ _ h => h) (by rfl) ?_ hHeld ?_
        rotate_left
        · (intro w hSw; (try dsimp only at hSw); go_simp; try with_reducible rfl)
        simp only [Act.put, List.setIfInBounds_toArray, List.set_cons_zero, List.set_cons_succ]
        refine take_yes 7 41 (v := ?_) rfl rfl (by kernel_rfl) (by kernel_rfl) (by kernel_rfl) (fun _ _ _ h => h) (by rfl) ?_ hHeld ?_
        rotate_left
        · (intro w hSw; (try dsimp only at hSw); go_simp; try with_reducible rfl)
        simp only [Act.put, List.setIfInBounds_toArray, List.set_cons_zero, List.set_cons_succ]
        refine take_yes 8 42 (v := ?_) rfl rfl (by kernel_rfl) (by kernel_rfl) (by kernel_rfl) (fun _ _ _ h => h) (by rfl) ?_ hHeld ?_
        rotate_left
        · (intro w hSw; (try dsimp only at hSw); go_simp; try with_reducible rfl)
        simp only [Act.put, List.setIfInBounds_toArray, List.set_cons_zero, List.set_cons_succ]
        refine take_yes 9 43 (v := ?_) rfl rfl (by kernel_rfl) (by kernel_rfl) (by kernel_rfl) (fun _ _ _ h => h) (by rfl) ?_ hHeld ?_
        rotate_left
        · (intro w hSw; (try dsimp only at hSw); go_simp; try with_reducible rfl)
        simp only [Act.put, List.setIfInBounds_toArray, List.set_cons_zero, List.set_cons_succ]
        refine take_yes 10 44 (v := ?_) rfl rfl (by kernel_rfl) (by kernel_rfl) (by kernel_rfl) (fun _ _ _ h => h) (by rfl) ?_ hHeld ?_
        rotate_left
        · (intro w hSw; (try dsimp only at hSw); go_simp; try with_reducible rfl)
        simp only [Act.put, List.setIfInBounds_toArray, List.set_cons_zero, List.set_cons_succ]
        refine take_yes 11 45 (v := ?_) rfl rfl (by kernel_rfl) (by kernel_rfl) (by kernel_rfl) (fun _ _ _ h => h) (by rfl) ?_ hHeld ?_
        rotate_left
        · (intro w hSw; (try dsimp only at hSw); go_simp; try with_reducible rfl)
        simp only [Act.put, List.setIfInBounds_toArray, List.set_cons_zero, List.set_cons_succ]
        refine take_yes 12 46 (v := ?_) rfl rfl (by kernel_rfl) (by kernel_rfl) (by kernel_rfl) (fun _ _ _ h => h) (by rfl) ?_ hHeld ?_
        rotate_left
        · (intro w hSw; (try dsimp only at hSw); go_simp; try with_reducible rfl)
        simp only [Act.put, List.setIfInBounds_toArray, List.set_cons_zero, List.set_cons_succ]
        refine take_yes 13 47 (v := ?_) rfl rfl (by kernel_rfl) (by kernel_rfl) (by kernel_rfl) (fun _ _ _ h => h) (by rfl) ?_ hHeld ?_
        rotate_left
        · (intro w hSw; (try dsimp only at hSw); go_simp; try with_reducible rfl)
        simp only [Act.put, List.setIfInBounds_toArray, List.set_cons_zero, List.set_cons_succ]
        refine take_yes 14 48 (v := ?_) rfl rfl (by kernel_rfl) (by kernel_rfl) (by kernel_rfl) (fun _ _ _ h => h) (by rfl) ?_ hHeld ?_
        rotate_left
        · (intro w hSw; (try dsimp only at hSw); go_simp; try with_reducible rfl)
        simp only [Act.put, List.setIfInBounds_toArray, List.set_cons_zero, List.set_cons_succ]
        refine wpAnyH_ready (rs := [15]) (by kernel_rfl) (by simp) (AllReadyH.cons rfl (fun K hK => ?_) AllReadyH.nil)
        go_simp
        refine hK.out _ _ (by first | with_reducible exact hkk | with_reducible exact ⟨(Gr.refl _).alloc.keep hkk.1, (Gr.refl _).alloc.keep hkk.2⟩) (fun hHeldN => ?_)
        clear hHeld hK K
        have hHeld := hHeldN
        clear hHeldN
        have HO6 : Hid (World.ownsRow (W.alloc (.cells #[.string q.t, .int .i64 q.n, .int .i64 0, .int .i64 0, .int .i64 0, .int .i64 0, .int .i64 0] 31)) (w.heap.size + 2) 31 7 u5 F.length (fV F)) := own_gr2 HOP.out gW.alloc
        have HN6 := f_lit W q.t q.n 31
        have HN6' : Hid (∀ j u, (fV [(q.t, q.n)])[j]? = some u → (W.alloc (.cells #[.string q.t, .int .i64 q.n, .int .i64 0, .int .i64 0, .int .i64 0, .int .i64 0, .int .i64 0] 31)).cell? ((⟨W.heap.size, 0, none⟩ : Addr).add j) = some u) := HN6
        clear HN6
        have hb6 : w.heap.size + 2 ≤ (W.alloc (.cells #[.string q.t, .int .i64 q.n, .int .i64 0, .int .i64 0, .int .i64 0, .int .i64 0, .int .i64 0] 31)).heap.size := by have := gW.size; simp; omega
        refine wpAnyH_ready (rs := [16]) (by kernel_rfl) (by simp) (AllReadyH.cons rfl (fun K hK => ?_) AllReadyH.nil)
        refine step_append_at (by rfl) _ _ 22 (by rfl) (w.heap.size + 2) 31 i0 (.agg #[.string ⟨#[]⟩, .int .i64 0, .int .i64 0, .int .i64 0, .int .i64 0, .int .i64 0, .int .i64 0]) 7 64 Try.underlying22 hi hz0 hz1 hz2 rfl (by decide) _ _ _ (by rfl) HO6.out ⟨W.heap.size, 0, none⟩ 1 1 (fV [(q.t, q.n)]) (by rfl) (by rfl) HN6'.out (fV_one _) (by unfold maxLen; omega) (by omega) hb6 ?_
        intro v6 w6 ho6 hgr6 hwh6
        obtain ⟨a6, c6, rfl⟩ := own_slice ho6
        have nbb : some bb ≠ u5.ownBlock := fun e => by have := (HO6.out.lt _ e.symm).1; omega
        have hkk : w6.cell? ⟨bb, off + k * 5 + 3, none⟩ = some (.string q.t) ∧ w6.cell? ⟨bb, off + k * 5 + 4, none⟩ = some (.int .i64 q.n) := ⟨hgr6.cell ((Gr.refl W).alloc.keep hkk.1) nbb, hgr6.cell ((Gr.refl W).alloc.keep hkk.2) nbb⟩
        refine hK.out (Act.put _ (some 50) (.slice a6 (F.length + 1) c6)) _ (by with_reducible exact hkk) (fun hHeldN => ?_)
        clear hHeld hK K
        have hHeld := hHeldN
        clear hHeldN
        simp only [Act.put, List.setIfInBounds_toArray, List.set_cons_zero, List.set_cons_succ]
        refine take_yes 17 5 (v := ?_) rfl rfl (by kernel_rfl) (by kernel_rfl) (by kernel_rfl) (fun _ _ _ h => h) (by rfl) ?_ hHeld ?_
        rotate_left
        · (intro w hSw; (try dsimp only at hSw); go_simp; try with_reducible rfl)
        simp only [Act.put, List.setIfInBounds_toArray, List.set_cons_zero, List.set_cons_succ]
        refine wpAnyH_done (by kernel_rfl) ?_ _
        have gA : Gr wp (W.alloc (.cells #[.string q.t, .int .i64 q.n, .int .i64 0, .int .i64 0, .int .i64 0, .int .i64 0, .int .i64 0] 31)) := gW.alloc
        have ne : ∀ i, (i < w.heap.size + 2 ∨ wr.heap.size ≤ i) → some i ≠ u5.ownBlock := fun i hi e => by
          have h1 := (HO6.out.lt _ e.symm).1
          have h2 := HUL.out _ e.symm
          omega
        have HE6 : Hid (OpI w ((w6.setCell ⟨w.heap.size + 1, 0, none⟩ (.slice b1 A'.length s1)).setCell ⟨w.heap.size + 1, 1, none⟩ (.slice b2 M'.length s2)) (k + 1) A' M' (F ++ [(q.t, q.n)]) b1 s1 b2 s2 (.slice a6 (F.length + 1) c6)) := by
          refine HIP.out w6 _ _ (gr_grown gA hgr6) HBF.out ?_ ?_ (Gr.grown (HGP.out.trans gA) hgr6 (fun g e => by have := (HO6.out.lt g e).1; omega))
          · rw [List.length_append, List.length_singleton, fV_app]; exact ho6
          · rcases hwh6 with h | h
            · exact Or.inl h
            · right
              intro g e
              rw [h] at e
              cases e
              exact gA.size
        obtain ⟨y0, y1, _, _, yl⟩ := (HZ.out.gr gA).grown hgr6 (ne Q (Or.inr hQ))
        obtain ⟨x0, x1, xf0, xf1, xl⟩ := (HBX.out.gr gA).grown hgr6 (ne _ (Or.inl (by omega)))
        clear gA gW hgr6 ho6 hwh6 HO6 HN6' hkk nbb d0 d3 d4 hb6
        go_wp2
        go_roundw
        case rel => exact ⟨k + 1, A', M', _, b1, s1, b2, s2, by omega, by go_num, HE6.out⟩
        case measure => simp [intOf]; omega
      · have HBF : Hid (Bal A' M' F) := by
          have h1 := HST.out
          rw [if_neg hgo] at h1
          have h2 := HBB.out
          rw [h1] at h2
          exact h2
        have HE6 : Hid (OpI w ((wp.setCell ⟨w.heap.size + 1, 0, none⟩ (.slice b1 A'.length s1)).setCell ⟨w.heap.size + 1, 1, none⟩ (.slice b2 M'.length s2)) (k + 1) A' M' F b1 s1 b2 s2 u5) :=
          HIP.out wp _ _ (gr_grown2 _ (Gr.refl _)) HBF.out HOP.out (Or.inl rfl) HGP.out
        obtain ⟨x0, x1, xf0, xf1, xl⟩ := HBX.out
        clear HBB HST
        cases ok with
        | false =>
          clear hgo d0 d3 d4
          go_wp2
          go_roundw
          case rel => exact ⟨k + 1, A', M', _, b1, s1, b2, s2, by omega, by go_num, HE6.out⟩
          case measure => simp [intOf]; omega
        | true =>
          have hkd : (q.kd == 0) = false := by
            rw [beq_eq_false_iff_ne]
            exact fun h => hgo ⟨rfl, h⟩
          clear hgo d3 d4
          go_wp2
          go_roundw
          case rel => exact ⟨k + 1, A', M', _, b1, s1, b2, s2, by omega, by go_num, HE6.out⟩
          case measure => simp [intOf]; omega
    · have hki : ¬ (k : Int) < (T.length : Int) := by omega
      obtain ⟨a3, c3, h3, _, _, hr3, hfr3, _⟩ := own_row (L := F.map fA) (by rw [List.length_map]; exact HI.out.own)
      rw [List.length_map] at h3
      subst h3
      have HR3 : Hid (AccsAt wr a3 (F.map fA)) := hr3
      have HFR : Hid (∀ a, a3 = some a → w.heap.size + 2 ≤ a.block) := hfr3
      clear hr3 hfr3
      obtain ⟨x0, x1, xf0, xf1, xl⟩ := HI.out.bx
      obtain ⟨y0, y1, yf0, yf1, yl⟩ := HI.out.rs
      go_wp2
      exact bodyPost_ret (v := .tuple #[.agg #[.slice a1 A.length c1, .slice a2 M.length c2], .slice a3 F.length c3]) (by simp [results, Try.results28, go_sem, *]) rfl ⟨A, M, F, a1, c1, a2, c2, a3, c3, rfl, HI.out.may, HI.out.bal, (RowAt.setOff HI.out.r1 _ _ HI.out.p1).setOff _ _ HI.out.p1, (RowAt.setOff HI.out.r2 _ _ HI.out.p2).setOff _ _ HI.out.p2, (RowAt.setFar HR3.out _ _ (fun a e => by have := HFR.out a e; simp; omega)).setFar _ _ (fun a e => by have := HFR.out a e; simp; omega), (HI.out.g.set _ (by simp) _).set _ (by simp) _⟩
end Go.Proofs.Ytiakajheoajepaa
