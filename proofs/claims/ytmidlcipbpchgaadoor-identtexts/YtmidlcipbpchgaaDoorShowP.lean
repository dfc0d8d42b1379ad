/- Show: the text of an id. -/
import Derived.Test.YtmidlcipbpchgaaDoorChkP
import Derived.Test.YtmidlcipbpchgaaDoorEnvP
import Derived.Test.YtmidlcipbpchgaaDoorTextM
import Derived.Deep.RegionHeld3
namespace Go.Proofs.YtmidlcipbpchgaaDoor
open Go.RowKit

def digsT (n : Int) : List UInt8 := Lib.decDigits n.toNat

theorem may_root {r n : Int} {L : List (Int × Int)} (h : Idn.mayB r n L = true) : 0 ≤ r ∧ r < 16 ∧ 1 ≤ n ∧ n ≤ 999999 ∧ L.length ≤ 4 ∧ ∀ x ∈ L, 0 ≤ x.1 ∧ x.1 < 8 ∧ 0 ≤ x.2 ∧ x.2 < 16 := by
  rw [Idn.may_hops] at h
  simp only [Bool.and_eq_true, decide_eq_true_eq] at h
  obtain ⟨⟨⟨⟨⟨h1, h2⟩, h3⟩, h4⟩, h5⟩, h6⟩ := h
  refine ⟨h4, h5, h1, h2, h3, ?_⟩
  have key : ∀ (l : List (Int × Int)) (seen : List Int), Idn.hopsB r seen l = true → ∀ x ∈ l, 0 ≤ x.1 ∧ x.1 < 8 ∧ 0 ≤ x.2 ∧ x.2 < 16 := by
    intro l
    induction l with
    | nil => intro _ _ x hx; simp at hx
    | cons a t ih =>
      intro seen hb x hx
      rw [Idn.hopsB] at hb
      simp only [Bool.and_eq_true, decide_eq_true_eq] at hb
      rcases List.mem_cons.1 hx with rfl | hx
      · exact ⟨hb.1.1.1.1.1.1, hb.1.1.1.1.1.2, hb.1.1.1.1.2, hb.1.1.1.2⟩
      · exact ih _ hb.2 x hx
  exact key L [] h6

theorem digs_len (n : Nat) (k : Nat) (h : n < 10 ^ (k + 1)) : (Lib.decDigits n).length ≤ k + 1 := by
  induction k generalizing n with
  | zero => rw [Lib.decDigits, dif_pos (by simpa using h)]; simp
  | succ k ih =>
    rw [Lib.decDigits]
    split
    · simp
    · have := ih (n / 10) (by rw [Nat.div_lt_iff_lt_mul (by omega)]; rw [Nat.pow_succ] at h; exact h)
      simp; omega

theorem show_len (r n : Int) (L : List (Int × Int)) (hr0 : 0 ≤ r) (hr1 : r < 16) (hn0 : 1 ≤ n) (hn1 : n ≤ 999999) (h : ∀ x ∈ L, 0 ≤ x.1 ∧ x.1 < 8 ∧ 0 ≤ x.2 ∧ x.2 < 16) : (Idn.showT r n L).length ≤ 13 + 14 * L.length := by
  have key : (L.flatMap Idn.hopT).length ≤ 14 * L.length := by
    induction L with
    | nil => simp
    | cons a t ih =>
      have h1 := ih (fun x hx => h x (List.mem_cons_of_mem _ hx))
      have h2 := h a List.mem_cons_self
      have l1 := digs_len a.1.toNat 5 (by omega)
      have l2 := digs_len a.2.toNat 5 (by omega)
      rw [List.flatMap_cons, List.length_append, List.length_cons]
      have e : (Idn.hopT a).length = (Lib.decDigits a.1.toNat).length + (Lib.decDigits a.2.toNat).length + 2 := by
        simp [Idn.hopT]; omega
      omega
  have l1 := digs_len r.toNat 5 (by omega)
  have l2 := digs_len n.toNat 5 (by omega)
  have e : (Idn.showT r n L).length = (Lib.decDigits r.toNat).length + (Lib.decDigits n.toNat).length + 1 + (L.flatMap Idn.hopT).length := by
    unfold Idn.showT
    rw [List.length_append, List.length_append, List.length_cons]; omega
  omega

set_option maxHeartbeats 8000000 in
set_option maxRecDepth 100000 in
theorem show_any (r n : Int) (L : List (Int × Int)) (ad : Option Addr) (cap : Nat) (w : World) (hL : HopsAt w ad L) (hn : L.length ≤ 9223372036854775807) (he : Env w) :
    Calls Tryd.prog 27 #[.agg #[.int .i64 r, .int .i64 n, .slice ad L.length cap]] w fun e w' =>
      ((Idn.mayB r n L = true ∧ e = .returned (.tuple #[.string ⟨(Idn.showT r n L).toArray⟩, .int .i64 0])) ∨ (Idn.mayB r n L = false ∧ e = .returned (.tuple #[.string ⟨#[]⟩, .int .i64 30]))) ∧ Gr w w' := by
  have HC : Hid (∀ w', Gr w w' → Calls Tryd.prog 9 #[.agg #[.int .i64 r, .int .i64 n, .slice ad L.length cap]] w' fun e w2 => e = .returned (.int .i64 (errB (Idn.mayB r n L))) ∧ Gr w' w2) := fun w' g => check_any r n L ad cap w' (hL.gr g) hn
  by_cases hm : Idn.mayB r n L = true
  · obtain ⟨hr0, hr1, hn0, hn1, h4, hall⟩ := may_root hm
    have HI : Hid (∀ (x : Int) (w' : World), 0 ≤ x → x ≤ 999999 → Gr w w' → Calls Tryd.prog 41 #[.int .i64 x] w' fun e w2 => e = .returned (.string ⟨(digsT x).toArray⟩) ∧ Gr w' w2) := by
      intro x w' h0 h1 g
      have := itoa_any x.toNat w' (by omega) (he.gr g)
      rw [show ((x.toNat : Nat) : Int) = x by omega] at this
      exact this
    have hlr : (digsT r).length ≤ 6 := digs_len r.toNat 5 (by omega)
    have hln : (digsT n).length ≤ 6 := digs_len n.toNat 5 (by omega)
    have ha1 := add_lists (digsT r) [46] (by simp; omega)
    have ha2 := add_lists (digsT r ++ [46]) (digsT n) (by simp; omega)
    have HT0 : Hid (Idn.showT r n [] = digsT r ++ [46] ++ digsT n) := by show _ = _; simp [Idn.showT, digsT]
    generalize digsT r ++ [46] ++ digsT n = u2 at ha2 HT0
    generalize digsT r ++ [46] = u1 at ha1 ha2
    rw [hm, show errB true = 0 from rfl] at HC
    have HM : Hid (Idn.mayB r n L = true) := hm
    have HL : Hid (HopsAt w ad L) := hL
    have HA : Hid (∀ x ∈ L, 0 ≤ x.1 ∧ x.1 < 8 ∧ 0 ≤ x.2 ∧ x.2 < 16) := hall
    clear hL hm hall he
    go_enter Tryd.func27, Tryd.ntmps27
    go_wp2_with fail
    refine (HC.out _ (by repeat (first | exact Gr.refl _ | refine Gr.alloc ?_ | refine Gr.drew ?_ | refine Gr.trans ?_ (by assumption)))).mono ?_
    rintro e1 w1 ⟨rfl, hg1⟩
    have p0 : w1.cell? ⟨w.heap.size, 0, none⟩ = some (.int .i64 r) := hg1.keep (by simp)
    have p1 : w1.cell? ⟨w.heap.size, 1, none⟩ = some (.int .i64 n) := hg1.keep (by simp)
    have p2 : w1.cell? ⟨w.heap.size, 2, none⟩ = some (.slice ad L.length cap) := hg1.keep (by simp)
    go_wp2
    go_region_held3 (fun w' => Gr w w' ∧ Gr w1 w' ∧ w'.cell? ⟨w.heap.size, 0, none⟩ = some (.int .i64 r) ∧ w'.cell? ⟨w.heap.size, 1, none⟩ = some (.int .i64 n))
      ((go_split_ands; exact ⟨(by repeat (first | exact Gr.refl _ | refine Gr.alloc ?_ | refine Gr.drew ?_ | refine Gr.trans ?_ (by assumption))), (by repeat (first | exact Gr.refl _ | refine Gr.alloc ?_ | refine Gr.drew ?_ | refine Gr.trans ?_ (by assumption))), Gr.keep (W := w1) (by repeat (first | exact Gr.refl _ | refine Gr.alloc ?_ | refine Gr.drew ?_ | refine Gr.trans ?_ (by assumption))) p0, Gr.keep (W := w1) (by repeat (first | exact Gr.refl _ | refine Gr.alloc ?_ | refine Gr.drew ?_ | refine Gr.trans ?_ (by assumption))) p1⟩))
      ((first | (go_at_call_of 41 (Value.int IntKind.i64 r); refine (HI.out r _ (by omega) (by omega) ?_).mono ?_; (go_split_ands; exact (by repeat (first | exact Gr.refl _ | refine Gr.alloc ?_ | refine Gr.drew ?_ | refine Gr.trans ?_ (by assumption)))); rintro e w2 ⟨rfl, hg2⟩; go_split_ands; have q2 : w2.cell? ⟨w.heap.size, 2, none⟩ = some (.slice ad L.length cap) := (Gr.keep (W := w1) (by repeat (first | exact Gr.refl _ | refine Gr.alloc ?_ | refine Gr.drew ?_ | refine Gr.trans ?_ (by assumption))) p2)) | (go_at_call 41; refine (HI.out n _ (by omega) (by omega) ?_).mono ?_; (go_split_ands; exact (by repeat (first | exact Gr.refl _ | refine Gr.alloc ?_ | refine Gr.drew ?_ | refine Gr.trans ?_ (by assumption)))); rintro e w3 ⟨rfl, hg3⟩; go_split_ands; have q3 : w3.cell? ⟨w.heap.size, 2, none⟩ = some (.slice ad L.length cap) := (Gr.keep (W := w1) (by repeat (first | exact Gr.refl _ | refine Gr.alloc ?_ | refine Gr.drew ?_ | refine Gr.trans ?_ (by assumption))) p2))))
    all_goals go_wp2
    all_goals
      go_loopw [5, 24] (fun o i wr => ∃ k : Nat, k ≤ L.length ∧ i = .int .i64 k ∧ o = .string ⟨(Idn.showT r n (L.take k)).toArray⟩ ∧ Gr w wr) (fun _ i _ => L.length - (intOf i).toNat)
      case atStart => exact ⟨0, by omega, rfl, by rw [List.take_zero, HT0.out], (by repeat (first | exact Gr.refl _ | refine Gr.alloc ?_ | refine Gr.drew ?_ | refine Gr.trans ?_ (by assumption)))⟩
      case round =>
        obtain ⟨k, hk, rfl, rfl, hg⟩ := hrel
        by_cases hlt : k < L.length
        · obtain ⟨b, off, rfl, hbl, hc, hd⟩ := HL.out k hlt
          have hc' := hg.keep hc
          have hd' := hg.keep hd
          obtain ⟨x0, x1, x2, x3⟩ := HA.out L[k] (List.getElem_mem hlt)
          have HT : Hid (Idn.showT r n (L.take (k + 1)) = Idn.showT r n (L.take k) ++ ([47] ++ digsT L[k].1 ++ [64] ++ digsT L[k].2)) := by
            show _ = _
            unfold Idn.showT
            rw [List.take_succ_eq_append_getElem hlt, List.flatMap_append]
            simp [Idn.hopT, digsT]
          have hsl := show_len r n (L.take k) hr0 hr1 hn0 hn1 (fun x hx => HA.out x (List.mem_of_mem_take hx))
          rw [List.length_take] at hsl
          obtain ⟨⟨y1, y2⟩, hy⟩ : ∃ h, L[k] = h := ⟨_, rfl⟩
          rw [hy] at hc' hd' x0 x1 x2 x3 HT
          simp only at x0 x1 x2 x3 HT
          have l1 : (digsT y1).length ≤ 6 := digs_len y1.toNat 5 (by omega)
          have l2 : (digsT y2).length ≤ 6 := digs_len y2.toNat 5 (by omega)
          have a1 := add_lists [47] (digsT y1) (by simp; omega)
          have a2 := add_lists ([47] ++ digsT y1) [64] (by simp; omega)
          have a3 := add_lists ([47] ++ digsT y1 ++ [64]) (digsT y2) (by simp; omega)
          have a4 := add_lists (Idn.showT r n (L.take k)) ([47] ++ digsT y1 ++ [64] ++ digsT y2) (by simp; omega)
          have hbw : b < wr.heap.size := Nat.lt_of_lt_of_le hbl hg.size
          have a4' : ∀ w : World, (Op.stringOp .add ⟨(Idn.showT r n (L.take k)).toArray⟩ ⟨([47] ++ digsT y1 ++ [64] ++ digsT y2).toArray⟩).run Tryd.prog w = .ok (.string ⟨(Idn.showT r n (L.take (k + 1))).toArray⟩) w := by intro w; rw [a4 w, HT.out]
          clear a4 HT
          obtain ⟨st2, hst⟩ : ∃ x, Idn.showT r n (L.take (k + 1)) = x := ⟨_, rfl⟩
          have HST : Hid (Idn.showT r n (L.take (k + 1)) = st2) := hst
          rw [hst] at a4'
          clear hst
          generalize Idn.showT r n (L.take k) = st at *
          generalize [47] ++ digsT y1 ++ [64] ++ digsT y2 = t3 at a3 a4'
          generalize [47] ++ digsT y1 ++ [64] = t2 at a2 a3
          generalize [47] ++ digsT y1 = t1 at a1 a2
          clear hc hd hy ha1 ha2 hsl
          go_wp2
          go_region_held3 (fun w' => Gr w w' ∧ Gr (wr.alloc (.cells #[.int .i64 y1, .int .i64 y2] 55)) w' ∧ w'.cell? ⟨wr.heap.size, 0, none⟩ = some (.int .i64 y1) ∧ w'.cell? ⟨wr.heap.size, 1, none⟩ = some (.int .i64 y2))
            ((go_split_ands; exact ⟨(by repeat (first | exact Gr.refl _ | refine Gr.alloc ?_ | refine Gr.drew ?_ | refine Gr.trans ?_ (by assumption))), (by repeat (first | exact Gr.refl _ | refine Gr.alloc ?_ | refine Gr.drew ?_ | refine Gr.trans ?_ (by assumption))), Gr.keep (W := wr.alloc (.cells #[.int .i64 y1, .int .i64 y2] 55)) (by repeat (first | exact Gr.refl _ | refine Gr.alloc ?_ | refine Gr.drew ?_ | refine Gr.trans ?_ (by assumption))) (by simp), Gr.keep (W := wr.alloc (.cells #[.int .i64 y1, .int .i64 y2] 55)) (by repeat (first | exact Gr.refl _ | refine Gr.alloc ?_ | refine Gr.drew ?_ | refine Gr.trans ?_ (by assumption))) (by simp)⟩))
            ((first | (go_at_call_of 41 (Value.int IntKind.i64 y1); refine (HI.out y1 _ (by omega) (by omega) ?_).mono ?_; (go_split_ands; exact (by repeat (first | exact Gr.refl _ | refine Gr.alloc ?_ | refine Gr.drew ?_ | refine Gr.trans ?_ (by assumption)))); rintro e w2 ⟨rfl, hg2⟩) | (go_at_call 41; refine (HI.out y2 _ (by omega) (by omega) ?_).mono ?_; (go_split_ands; exact (by repeat (first | exact Gr.refl _ | refine Gr.alloc ?_ | refine Gr.drew ?_ | refine Gr.trans ?_ (by assumption)))); rintro e w3 ⟨rfl, hg3⟩)))
          all_goals go_wp2
          all_goals
            go_roundw
            case rel => exact ⟨k + 1, by omega, by go_num, by rw [HST.out], (by repeat (first | exact Gr.refl _ | refine Gr.alloc ?_ | refine Gr.drew ?_ | refine Gr.trans ?_ (by assumption)))⟩
            case measure => simp [intOf]; omega
        · have HE : Hid (Idn.showT r n (L.take k) = Idn.showT r n L) := by
            show _ = _
            rw [List.take_of_length_le (by omega)]
          go_wp2
          go_ret2
          exact ⟨Or.inl ⟨HM.out, by rw [← HE.out]; rfl⟩, hg⟩
  · have hm' : Idn.mayB r n L = false := by simpa using hm
    rw [hm', show errB false = 30 from rfl] at HC
    have HM : Hid (Idn.mayB r n L = false) := hm'
    clear hL hm hm' he
    go_enter Tryd.func27, Tryd.ntmps27
    go_wp2_with fail
    refine (HC.out _ (by repeat (first | exact Gr.refl _ | refine Gr.alloc ?_ | refine Gr.drew ?_ | refine Gr.trans ?_ (by assumption)))).mono ?_
    rintro e1 w1 ⟨rfl, hg1⟩
    go_wp2
    go_ret2
    exact ⟨Or.inr ⟨HM.out, rfl⟩, (by repeat (first | exact Gr.refl _ | refine Gr.alloc ?_ | refine Gr.drew ?_ | refine Gr.trans ?_ (by assumption)))⟩
end Go.Proofs.YtmidlcipbpchgaaDoor
