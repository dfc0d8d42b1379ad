
/- the document's Cmp, and Same. -/
import Derived.Test.YtilkfgpcibdikaaCmpP
import Derived.BigRegion
namespace Go.Proofs.Ytilkfgpcibdikaa
open Go.RowKit

theorem number_any (x y : Int) (w : World) : Calls Try.prog 66 #[.int .i64 x, .int .i64 y] w fun e w' => e = .returned (.int .i64 (Idn.cmpI x y)) ∧ w' = w := by
  by_cases h : x < y
  · have HE : Hid (Idn.cmpI x y = -1) := by show _ = _; simp [Idn.cmpI, h]
    go_enter Try.func66, Try.ntmps66
    go_wp2
    go_ret
    exact ⟨by rw [HE.out]; rfl, rfl⟩
  · by_cases h2 : y < x
    · have HE : Hid (Idn.cmpI x y = 1) := by show _ = _; simp [Idn.cmpI, h, h2]
      go_enter Try.func66, Try.ntmps66
      go_wp2
      go_ret
      exact ⟨by rw [HE.out]; rfl, rfl⟩
    · have HE : Hid (Idn.cmpI x y = 0) := by show _ = _; simp [Idn.cmpI, h, h2]
      go_enter Try.func66, Try.ntmps66
      go_wp2
      go_ret
      exact ⟨by rw [HE.out]; rfl, rfl⟩

set_option maxHeartbeats 2000000 in
set_option maxRecDepth 100000 in
theorem refCmp_any (r n : Int) (L : List (Int × Int)) (ad : Option Addr) (cap : Nat) (r2 n2 : Int) (M : List (Int × Int)) (ad2 : Option Addr) (cap2 : Nat) (w : World) (hL : HopsAt w ad L) (hM : HopsAt w ad2 M) (hn : L.length ≤ 9223372036854775807) (hm : M.length ≤ 9223372036854775807) :
    Calls Try.prog 58 #[.agg #[.int .i64 r, .int .i64 n, .slice ad L.length cap], .agg #[.int .i64 r2, .int .i64 n2, .slice ad2 M.length cap2]] w fun e w' => e = .returned (.int .i64 (Idn.cmpE r n L r2 n2 M)) ∧ Gr w w' := by
  have HC : Hid (∀ (a b : Int) (w' : World), Calls Try.prog 66 #[.int .i64 a, .int .i64 b] w' fun e w2 => e = .returned (.int .i64 (Idn.cmpI a b)) ∧ w2 = w') := number_any
  have HL : Hid (HopsAt w ad L) := hL
  have HM : Hid (HopsAt w ad2 M) := hM
  clear hL hM
  by_cases h1 : r = r2
  · subst h1
    have hr : (r != r) = false := by simp
    by_cases h2 : n = n2
    · subst h2
      have hr2 : (n != n) = false := by simp
      have HE : Hid (Idn.cmpE r n L r n M = Idn.cmpH L M) := by
        show _ = _
        rw [Idn.cmpE, (Idn.cmpI_zero r r).2 rfl, (Idn.cmpI_zero n n).2 rfl]; rfl
      go_enter Try.func58, Try.ntmps58
      go_wp2
      go_loopw [5] (fun i wr => ∃ k : Nat, k ≤ L.length ∧ k ≤ M.length ∧ i = .int .i64 k ∧ Idn.cmpH L M = Idn.cmpH (L.drop k) (M.drop k) ∧ Gr w wr ∧ w.heap.size + 1 < wr.heap.size ∧ wr.cell? ⟨w.heap.size, 2, none⟩ = some (.slice ad L.length cap) ∧ wr.cell? ⟨w.heap.size + 1, 2, none⟩ = some (.slice ad2 M.length cap2)) (fun i _ => L.length - (intOf i).toNat)
      case atStart => exact ⟨0, by omega, by omega, rfl, rfl, (by repeat (first | exact Gr.refl _ | refine Gr.alloc ?_ | refine Gr.drew ?_ | refine Gr.trans ?_ (by assumption))), by simp, by simp, by simp⟩
      case round =>
        obtain ⟨k, hk, hk2, rfl, hp, hg, hsz, q1, q2⟩ := hrel
        have HP : Hid (Idn.cmpH L M = Idn.cmpH (L.drop k) (M.drop k)) := hp
        have hsz0 : w.heap.size < wr.heap.size := by omega
        clear hp
        by_cases hlt : k < L.length
        · by_cases hlt2 : k < M.length
          · obtain ⟨b, off, rfl, hbl, hc, hd⟩ := HL.out k hlt
            obtain ⟨b2, off2, rfl, hbl2, hc2, hd2⟩ := HM.out k hlt2
            have hc' := hg.keep hc
            have hd' := hg.keep hd
            have hc2' := hg.keep hc2
            have hd2' := hg.keep hd2
            have HP2 : Hid (Idn.cmpH L M = Idn.orI (Idn.cmpP L[k] M[k]) (Idn.cmpH (L.drop (k + 1)) (M.drop (k + 1)))) := by
              show _ = _
              rw [HP.out, List.drop_eq_getElem_cons hlt, List.drop_eq_getElem_cons hlt2]; rfl
            obtain ⟨⟨x1, x2⟩, hx⟩ : ∃ h, L[k] = h := ⟨_, rfl⟩
            obtain ⟨⟨y1, y2⟩, hy⟩ : ∃ h, M[k] = h := ⟨_, rfl⟩
            rw [hx] at hc' hd' HP2
            rw [hy] at hc2' hd2' HP2
            have hki : (k : Int) < L.length := by omega
            have hki2 : (k : Int) < M.length := by omega
            clear hc2 hd2 hx hy HP HL HM hc hd
            have hbw : b < wr.heap.size := Nat.lt_of_lt_of_le hbl hg.size
            have hbw2 : b2 < wr.heap.size := Nat.lt_of_lt_of_le hbl2 hg.size
            by_cases e1 : x1 = y1
            · subst e1
              have he1 : (x1 != x1) = false := by simp
              by_cases e2 : x2 = y2
              · subst e2
                have he2 : (x2 != x2) = false := by simp
                have HF : Hid (Idn.cmpH L M = Idn.cmpH (L.drop (k + 1)) (M.drop (k + 1))) := by show _ = _; rw [HP2.out, (Idn.cmpP_zero _ _).2 rfl]; rfl
                clear HP2
                go_wp2
                go_region
                all_goals go_wp2
                all_goals
                  go_roundw
                  case rel => exact ⟨k + 1, by omega, by omega, by go_num, HF.out, (by repeat (first | exact Gr.refl _ | refine Gr.alloc ?_ | refine Gr.drew ?_ | refine Gr.trans ?_ (by assumption))), by simp; omega, by simp [World.cell?_alloc_some, q1], by simp [World.cell?_alloc_some, q2]⟩
                  case measure => simp [intOf]; omega
              · have he2 : (x2 != y2) = true := by rw [bne_iff_ne]; exact e2
                have HF : Hid (Idn.cmpH L M = Idn.cmpI x2 y2) := by
                  show _ = _
                  have : Idn.cmpI x2 y2 ≠ 0 := fun h => e2 ((Idn.cmpI_zero _ _).1 h)
                  rw [HP2.out, Idn.cmpP, (Idn.cmpI_zero x1 x1).2 rfl, Idn.orI_self_zero, Idn.orI, if_neg this]
                clear HP2
                go_wp2
                go_region
                all_goals
                  go_wp2_with fail
                  refine (HC.out _ _ _).mono ?_
                  rintro e1 w1 ⟨rfl, hw1⟩; obtain rfl := hw1.symm
                  go_wp2
                  go_ret
                  exact ⟨by rw [HE.out, HF.out]; rfl, (by repeat (first | exact Gr.refl _ | refine Gr.alloc ?_ | refine Gr.drew ?_ | refine Gr.trans ?_ (by assumption)))⟩
            · have he1 : (x1 != y1) = true := by rw [bne_iff_ne]; exact e1
              have HF : Hid (Idn.cmpH L M = Idn.cmpI x1 y1) := by
                show _ = _
                have : Idn.cmpI x1 y1 ≠ 0 := fun h => e1 ((Idn.cmpI_zero _ _).1 h)
                have h3 : Idn.cmpP (x1, x2) (y1, y2) = Idn.cmpI x1 y1 := by rw [Idn.cmpP, Idn.orI, if_neg this]
                rw [HP2.out, h3, Idn.orI, if_neg this]
              clear HP2
              go_wp2
              go_region
              all_goals
                go_wp2_with fail
                refine (HC.out _ _ _).mono ?_
                rintro e1 w1 ⟨rfl, hw1⟩; obtain rfl := hw1.symm
                go_wp2
                go_ret
                exact ⟨by rw [HE.out, HF.out]; rfl, (by repeat (first | exact Gr.refl _ | refine Gr.alloc ?_ | refine Gr.drew ?_ | refine Gr.trans ?_ (by assumption)))⟩
          · have HF : Hid (Idn.cmpH L M = 1) := by
              show _ = _
              rw [HP.out, List.drop_eq_getElem_cons hlt, dropN M k (by omega)]; rfl
            have HF2 : Hid (Idn.cmpI L.length M.length = 1) := by show _ = _; unfold Idn.cmpI; rw [if_neg (by omega), if_pos (by omega)]
            go_wp2_with fail
            refine (HC.out _ _ _).mono ?_
            rintro e1 w1 ⟨rfl, hw1⟩; obtain rfl := hw1.symm
            go_wp2
            go_ret
            exact ⟨by rw [HE.out, HF.out, ← HF2.out]; rfl, (by repeat (first | exact Gr.refl _ | refine Gr.alloc ?_ | refine Gr.drew ?_ | refine Gr.trans ?_ (by assumption)))⟩
        · have HF : Hid (Idn.cmpH L M = Idn.cmpI L.length M.length) := by
            show _ = _
            rw [HP.out, dropN L k (by omega)]
            by_cases hlt2 : k < M.length
            · rw [List.drop_eq_getElem_cons hlt2]; unfold Idn.cmpI; rw [if_pos (by omega)]; rfl
            · rw [dropN M k (by omega)]; unfold Idn.cmpI; rw [if_neg (by omega), if_neg (by omega)]; rfl
          go_wp2_with fail
          refine (HC.out _ _ _).mono ?_
          rintro e1 w1 ⟨rfl, hw1⟩; obtain rfl := hw1.symm
          go_wp2
          go_ret
          exact ⟨by rw [HE.out, HF.out]; rfl, (by repeat (first | exact Gr.refl _ | refine Gr.alloc ?_ | refine Gr.drew ?_ | refine Gr.trans ?_ (by assumption)))⟩
    · have hne : (n != n2) = true := by rw [bne_iff_ne]; exact h2
      have HE : Hid (Idn.cmpE r n L r n2 M = Idn.cmpI n n2) := by
        show _ = _
        have : Idn.cmpI n n2 ≠ 0 := fun h => h2 ((Idn.cmpI_zero n n2).1 h)
        rw [Idn.cmpE, (Idn.cmpI_zero r r).2 rfl, Idn.orI_self_zero, Idn.orI, if_neg this]
      clear HL HM
      go_enter Try.func58, Try.ntmps58
      go_wp2_with fail
      refine (HC.out _ _ _).mono ?_
      rintro e1 w1 ⟨rfl, hw1⟩; obtain rfl := hw1.symm
      go_wp2
      go_ret
      exact ⟨by rw [HE.out]; rfl, (by repeat (first | exact Gr.refl _ | refine Gr.alloc ?_ | refine Gr.drew ?_ | refine Gr.trans ?_ (by assumption)))⟩
  · have hne : (r != r2) = true := by rw [bne_iff_ne]; exact h1
    have HE : Hid (Idn.cmpE r n L r2 n2 M = Idn.cmpI r r2) := by
      show _ = _
      have : Idn.cmpI r r2 ≠ 0 := fun h => h1 ((Idn.cmpI_zero r r2).1 h)
      rw [Idn.cmpE, Idn.orI, if_neg this]
    clear HL HM
    go_enter Try.func58, Try.ntmps58
    go_wp2_with fail
    refine (HC.out _ _ _).mono ?_
    rintro e1 w1 ⟨rfl, hw1⟩; obtain rfl := hw1.symm
    go_wp2
    go_ret
    exact ⟨by rw [HE.out]; rfl, (by repeat (first | exact Gr.refl _ | refine Gr.alloc ?_ | refine Gr.drew ?_ | refine Gr.trans ?_ (by assumption)))⟩

def sameB (r n : Int) (L : List (Int × Int)) (r2 n2 : Int) (M : List (Int × Int)) : Bool := decide (r = r2 ∧ n = n2 ∧ L = M)

set_option maxHeartbeats 1000000 in
set_option maxRecDepth 100000 in
theorem same_any (r n : Int) (L : List (Int × Int)) (ad : Option Addr) (cap : Nat) (r2 n2 : Int) (M : List (Int × Int)) (ad2 : Option Addr) (cap2 : Nat) (w : World) (hL : HopsAt w ad L) (hM : HopsAt w ad2 M) (hn : L.length ≤ 9223372036854775807) (hm : M.length ≤ 9223372036854775807) :
    Calls Try.prog 48 #[.agg #[.int .i64 r, .int .i64 n, .slice ad L.length cap], .agg #[.int .i64 r2, .int .i64 n2, .slice ad2 M.length cap2]] w fun e w' => e = .returned (.bool (sameB r n L r2 n2 M)) ∧ Gr w w' := by
  have HC : Hid (∀ w', Gr w w' → Calls Try.prog 58 #[.agg #[.int .i64 r, .int .i64 n, .slice ad L.length cap], .agg #[.int .i64 r2, .int .i64 n2, .slice ad2 M.length cap2]] w' fun e w2 => e = .returned (.int .i64 (Idn.cmpE r n L r2 n2 M)) ∧ Gr w' w2) := fun w' g => refCmp_any r n L ad cap r2 n2 M ad2 cap2 w' (hL.gr g) (hM.gr g) hn hm
  have hz := Idn.cmpE_zero r n L r2 n2 M
  have HS : Hid (sameB r n L r2 n2 M = (Idn.cmpE r n L r2 n2 M == 0)) := by
    show _ = _
    rw [sameB, Bool.eq_iff_iff, decide_eq_true_iff, beq_iff_eq, hz]
  generalize Idn.cmpE r n L r2 n2 M = c at *
  clear hL hM hz
  go_enter Try.func48, Try.ntmps48
  go_wp2_with fail
  refine (HC.out _ (by repeat (first | exact Gr.refl _ | refine Gr.alloc ?_ | refine Gr.drew ?_ | refine Gr.trans ?_ (by assumption)))).mono ?_
  rintro e1 w1 ⟨rfl, hg1⟩
  go_wp2
  go_ret
  exact ⟨by rw [HS.out]; rfl, (by repeat (first | exact Gr.refl _ | refine Gr.alloc ?_ | refine Gr.drew ?_ | refine Gr.trans ?_ (by assumption)))⟩
end Go.Proofs.Ytilkfgpcibdikaa
