
/- Cmp: by Root, then N, then the hops. -/
import Derived.Test.YtilkfgpcibdikaaIdA
import Derived.Test.YtilkfgpcibdikaaCmpM
import Derived.Deep.RegionHeld3
namespace Go.Proofs.Ytilkfgpcibdikaa
open Go.RowKit

theorem dropN {α : Type} (l : List α) (k : Nat) (h : l.length ≤ k) : l.drop k = [] := List.drop_eq_nil_of_le h

theorem isNaN_any (x : Int) (w : World) : Calls Try.prog 71 #[.int .i64 x] w fun e w' => e = .returned (.bool false) ∧ w' = w := by
  have h : (x != x) = false := by simp
  go_enter Try.func71, Try.ntmps71
  go_wp2
  go_ret
  exact ⟨rfl, rfl⟩

set_option maxHeartbeats 400000 in
theorem compare_any (x y : Int) (w : World) : Calls Try.prog 63 #[.int .i64 x, .int .i64 y] w fun e w' => e = .returned (.int .i64 (Idn.cmpI x y)) ∧ w' = w := by
  have H1 : Hid (Calls Try.prog 71 #[.int .i64 x] w fun e w' => e = .returned (.bool false) ∧ w' = w) := isNaN_any x w
  have H2 : Hid (Calls Try.prog 71 #[.int .i64 y] w fun e w' => e = .returned (.bool false) ∧ w' = w) := isNaN_any y w
  by_cases h : x < y
  · have HE : Hid (Idn.cmpI x y = -1) := by show _ = _; simp [Idn.cmpI, h]
    go_enter Try.func63, Try.ntmps63
    go_wp2_with fail
    refine H1.out.mono ?_
    rintro e1 w1 ⟨rfl, hw1⟩; obtain rfl := hw1.symm
    go_wp2_with fail
    refine H2.out.mono ?_
    rintro e1 w1 ⟨rfl, hw1⟩; obtain rfl := hw1.symm
    go_wp2
    go_ret
    exact ⟨by rw [HE.out]; rfl, rfl⟩
  · by_cases h2 : y < x
    · have HE : Hid (Idn.cmpI x y = 1) := by show _ = _; simp [Idn.cmpI, h, h2]
      go_enter Try.func63, Try.ntmps63
      go_wp2_with fail
      refine H1.out.mono ?_
      rintro e1 w1 ⟨rfl, hw1⟩; obtain rfl := hw1.symm
      go_wp2_with fail
      refine H2.out.mono ?_
      rintro e1 w1 ⟨rfl, hw1⟩; obtain rfl := hw1.symm
      go_wp2
      go_ret
      exact ⟨by rw [HE.out]; rfl, rfl⟩
    · have HE : Hid (Idn.cmpI x y = 0) := by show _ = _; simp [Idn.cmpI, h, h2]
      go_enter Try.func63, Try.ntmps63
      go_wp2_with fail
      refine H1.out.mono ?_
      rintro e1 w1 ⟨rfl, hw1⟩; obtain rfl := hw1.symm
      go_wp2_with fail
      refine H2.out.mono ?_
      rintro e1 w1 ⟨rfl, hw1⟩; obtain rfl := hw1.symm
      go_wp2
      go_ret
      exact ⟨by rw [HE.out]; rfl, rfl⟩

def orL : List Int → Int
  | [] => 0
  | x :: l => Idn.orI x (orL l)

set_option maxHeartbeats 400000 in
theorem or_any (l : List Int) (ad : Option Addr) (cap : Nat) (w : World) (hL : IntsAt w ad l) (hn : l.length ≤ 1000) :
    Calls Try.prog 62 #[.slice ad l.length cap] w fun e w' => e = .returned (.int .i64 (orL l)) ∧ w' = w := by
  have HL : Hid (IntsAt w ad l) := hL
  clear hL
  go_enter Try.func62, Try.ntmps62
  go_wp2
  go_loop [8] (fun i => ∃ k : Nat, k ≤ l.length ∧ i = .int .i64 k ∧ orL l = orL (l.drop k)) (fun i => l.length - (intOf i).toNat)
  case atStart => exact ⟨0, by omega, rfl, rfl⟩
  case round =>
    obtain ⟨k, hk, rfl, hp⟩ := hrel
    have HP : Hid (orL l = orL (l.drop k)) := hp
    clear hp
    by_cases hlt : k < l.length
    · obtain ⟨b, off, rfl, hbl, hc⟩ := HL.out k hlt
      have HP2 : Hid (orL l = Idn.orI l[k] (orL (l.drop (k + 1)))) := by
        show _ = _
        rw [HP.out, List.drop_eq_getElem_cons hlt]; rfl
      generalize l[k] = o at *
      by_cases h0 : o = 0
      · subst h0
        go_wp2
        go_round
        case rel => exact ⟨k + 1, by omega, by go_num, HP2.out⟩
        case measure => simp [intOf]; omega
      · have hne : (o != 0) = true := by rw [bne_iff_ne]; exact h0
        have HF : Hid (orL l = o) := by show _ = _; rw [HP2.out, Idn.orI, if_neg h0]
        go_wp2
        go_ret
        exact ⟨by rw [HF.out]; rfl, rfl⟩
    · have HF : Hid (orL l = 0) := by show _ = _; rw [HP.out, List.drop_eq_nil_of_le (by omega)]; rfl
      go_wp2
      go_ret
      exact ⟨by rw [HF.out]; rfl, rfl⟩

theorem ints_lit2 (w : World) (a b : Int) (t : TypeId) (g : Nat) (hg : g = w.heap.size) : IntsAt (w.alloc (.cells #[.int .i64 a, .int .i64 b] t)) (some ⟨g, 0, none⟩) [a, b] := by
  subst hg
  intro j hj
  refine ⟨_, _, rfl, by simp, ?_⟩
  match j, hj with
  | 0, _ => simp
  | 1, _ => simp
theorem ints_lit3 (w : World) (a b c : Int) (t : TypeId) (g : Nat) (hg : g = w.heap.size) : IntsAt (w.alloc (.cells #[.int .i64 a, .int .i64 b, .int .i64 c] t)) (some ⟨g, 0, none⟩) [a, b, c] := by
  subst hg
  intro j hj
  refine ⟨_, _, rfl, by simp, ?_⟩
  match j, hj with
  | 0, _ => simp
  | 1, _ => simp
  | 2, _ => simp

set_option maxHeartbeats 2000000 in
set_option maxRecDepth 100000 in
theorem compareHops_any (x y : Int × Int) (w : World) : Calls Try.prog 65 #[.agg #[.int .i64 x.1, .int .i64 x.2], .agg #[.int .i64 y.1, .int .i64 y.2]] w fun e w' => e = .returned (.int .i64 (Idn.cmpP x y)) ∧ Gr w w' := by
  have HE : Hid (Idn.cmpP x y = orL [Idn.cmpI x.1 y.1, Idn.cmpI x.2 y.2]) := by
    show _ = _
    unfold Idn.cmpP orL orL orL Idn.orI
    split <;> (try split) <;> omega
  obtain ⟨x1, x2⟩ := x
  obtain ⟨y1, y2⟩ := y
  simp only at *
  have HC : Hid (∀ (a b : Int) (w' : World), Calls Try.prog 63 #[.int .i64 a, .int .i64 b] w' fun e w2 => e = .returned (.int .i64 (Idn.cmpI a b)) ∧ w2 = w') := compare_any
  have H3 : Hid (∀ (a b : Int) (w' : World) (g : Nat), IntsAt w' (some ⟨g, 0, none⟩) [a, b] → Calls Try.prog 62 #[.slice (some ⟨g, 0, none⟩) 2 2] w' fun e w2 => e = .returned (.int .i64 (orL [a, b])) ∧ w2 = w') := fun a b w' g h => or_any [a, b] _ 2 w' h (by simp)
  go_enter Try.func65, Try.ntmps65
  go_wp2
  go_region_held3 (fun w' => w'.cell? ⟨w.heap.size, 0, none⟩ = some (.int .i64 x1) ∧ w'.cell? ⟨w.heap.size, 1, none⟩ = some (.int .i64 x2) ∧ w'.cell? ⟨w.heap.size + 1, 0, none⟩ = some (.int .i64 y1) ∧ w'.cell? ⟨w.heap.size + 1, 1, none⟩ = some (.int .i64 y2)) (go_keep) ((first | (go_at_call 63; refine (HC.out _ _ _).mono ?_; rintro e w2 ⟨rfl, rfl⟩) | (go_at_call 62; refine (H3.out (Idn.cmpI x1 y1) (Idn.cmpI x2 y2) _ _ ?_).mono ?_; (exact ints_lit2 _ _ _ _ _ (by simp)); rintro e w2 ⟨rfl, rfl⟩)))
  all_goals go_wp2
  all_goals go_ret
  all_goals exact ⟨by rw [HE.out]; rfl, (by repeat (first | exact Gr.refl _ | refine Gr.alloc ?_ | refine Gr.drew ?_ | refine Gr.trans ?_ (by assumption)))⟩

set_option maxHeartbeats 1000000 in
set_option maxRecDepth 100000 in
theorem compareFunc_any (L M : List (Int × Int)) (ad ad2 : Option Addr) (cap cap2 : Nat) (w : World) (hL : HopsAt w ad L) (hM : HopsAt w ad2 M) (hn : L.length ≤ 9223372036854775807) (hm : M.length ≤ 9223372036854775807) :
    Calls Try.prog 64 #[.slice ad L.length cap, .slice ad2 M.length cap2, .func (.func 65) #[] #[]] w fun e w' => e = .returned (.int .i64 (Idn.cmpH L M)) ∧ Gr w w' := by
  have HL : Hid (HopsAt w ad L) := hL
  have HM : Hid (HopsAt w ad2 M) := hM
  have HC : Hid (∀ (x1 x2 y1 y2 : Int) (w' : World), Calls Try.prog 65 #[.agg #[.int .i64 x1, .int .i64 x2], .agg #[.int .i64 y1, .int .i64 y2]] w' fun e w2 => e = .returned (.int .i64 (Idn.cmpP (x1, x2) (y1, y2))) ∧ Gr w' w2) := fun x1 x2 y1 y2 w' => compareHops_any (x1, x2) (y1, y2) w'
  clear hL hM
  go_enter Try.func64, Try.ntmps64
  go_wp2
  go_loopw [13] (fun i wr => ∃ k : Nat, k ≤ L.length ∧ k ≤ M.length ∧ i = .int .i64 k ∧ Idn.cmpH L M = Idn.cmpH (L.drop k) (M.drop k) ∧ Gr w wr) (fun i _ => L.length - (intOf i).toNat)
  case atStart => exact ⟨0, by omega, by omega, rfl, rfl, Gr.refl _⟩
  case round =>
    obtain ⟨k, hk, hk2, rfl, hp, hg⟩ := hrel
    have HP : Hid (Idn.cmpH L M = Idn.cmpH (L.drop k) (M.drop k)) := hp
    clear hp
    by_cases hlt : k < L.length
    · obtain ⟨b, off, rfl, hbl, hc, hd⟩ := HL.out k hlt
      have hc' := hg.keep hc
      have hd' := hg.keep hd
      clear hc hd
      by_cases hlt2 : k < M.length
      · obtain ⟨b2, off2, rfl, hbl2, hc2, hd2⟩ := HM.out k hlt2
        have hc2' := hg.keep hc2
        have hd2' := hg.keep hd2
        have HP2 : Hid (Idn.cmpH L M = Idn.orI (Idn.cmpP L[k] M[k]) (Idn.cmpH (L.drop (k + 1)) (M.drop (k + 1)))) := by
          show _ = _
          rw [HP.out, List.drop_eq_getElem_cons hlt, List.drop_eq_getElem_cons hlt2]; rfl
        obtain ⟨⟨x1, x2⟩, hx⟩ : ∃ h, L[k] = h := ⟨_, rfl⟩
        obtain ⟨⟨y1, y2⟩, hy⟩ : ∃ h, M[k] = h := ⟨_, rfl⟩
        rw [hx] at hc' hd' HP2
        rw [hy] at hc2' hd2' HP2
        have hbw : b2 < wr.heap.size := Nat.lt_of_lt_of_le hbl2 hg.size
        have hge : ¬ ((M.length : Int) ≤ k) := by omega
        clear hc2 hd2 hx hy HP HL HM
        by_cases h0 : Idn.cmpP (x1, x2) (y1, y2) = 0
        · have HF : Hid (Idn.cmpH L M = Idn.cmpH (L.drop (k + 1)) (M.drop (k + 1))) := by show _ = _; rw [HP2.out, h0]; rfl
          have HC2 : Hid (∀ w' : World, Calls Try.prog 65 #[.agg #[.int .i64 x1, .int .i64 x2], .agg #[.int .i64 y1, .int .i64 y2]] w' fun e w2 => e = .returned (.int .i64 0) ∧ Gr w' w2) := by
            intro w'; have := HC.out x1 x2 y1 y2 w'; rw [h0] at this; exact this
          clear HC HP2 h0
          go_wp2_with fail
          refine (HC2.out _).mono ?_
          rintro e1 w1 ⟨rfl, hg1⟩
          go_wp2
          go_roundw
          case rel => exact ⟨k + 1, by omega, by omega, by go_num, HF.out, (by repeat (first | exact Gr.refl _ | refine Gr.alloc ?_ | refine Gr.drew ?_ | refine Gr.trans ?_ (by assumption)))⟩
          case measure => simp [intOf]; omega
        · have HF : Hid (Idn.cmpH L M = Idn.cmpP (x1, x2) (y1, y2)) := by show _ = _; rw [HP2.out, Idn.orI, if_neg h0]
          have HC2 : Hid (∀ w' : World, Calls Try.prog 65 #[.agg #[.int .i64 x1, .int .i64 x2], .agg #[.int .i64 y1, .int .i64 y2]] w' fun e w2 => e = .returned (.int .i64 (Idn.cmpP (x1, x2) (y1, y2))) ∧ Gr w' w2) := HC.out x1 x2 y1 y2
          generalize Idn.cmpP (x1, x2) (y1, y2) = c at *
          have hne : (c != 0) = true := by rw [bne_iff_ne]; exact h0
          clear HC HP2
          go_wp2_with fail
          refine (HC2.out _).mono ?_
          rintro e1 w1 ⟨rfl, hg1⟩
          go_wp2
          go_ret
          exact ⟨by rw [HF.out]; rfl, (by repeat (first | exact Gr.refl _ | refine Gr.alloc ?_ | refine Gr.drew ?_ | refine Gr.trans ?_ (by assumption)))⟩
      · have HF : Hid (Idn.cmpH L M = 1) := by
          show _ = _
          rw [HP.out, List.drop_eq_getElem_cons hlt, dropN M k (by omega)]; rfl
        have hge : (M.length : Int) ≤ k := by omega
        generalize L[k] = h at *
        clear HC HP HL HM
        go_wp2
        go_ret
        exact ⟨by rw [HF.out]; rfl, (by repeat (first | exact Gr.refl _ | refine Gr.alloc ?_ | refine Gr.drew ?_ | refine Gr.trans ?_ (by assumption)))⟩
    · by_cases hlt2 : L.length < M.length
      · have HF : Hid (Idn.cmpH L M = -1) := by
          show _ = _
          rw [HP.out, List.drop_eq_getElem_cons (l := M) (i := k) (by omega), dropN L k (by omega)]; rfl
        go_wp2
        go_ret
        exact ⟨by rw [HF.out]; rfl, (by repeat (first | exact Gr.refl _ | refine Gr.alloc ?_ | refine Gr.drew ?_ | refine Gr.trans ?_ (by assumption)))⟩
      · have HF : Hid (Idn.cmpH L M = 0) := by
          show _ = _
          rw [HP.out, dropN L k (by omega), dropN M k (by omega)]; rfl
        go_wp2
        go_ret
        exact ⟨by rw [HF.out]; rfl, (by repeat (first | exact Gr.refl _ | refine Gr.alloc ?_ | refine Gr.drew ?_ | refine Gr.trans ?_ (by assumption)))⟩

end Go.Proofs.Ytilkfgpcibdikaa
