/- Parts of these proofs, laid together. -/
import Derived.Test.YthfbpilfdfploaaGA
import Derived.Test.YthfbpilfdfploaaGC
import Derived.Deep.RegionHeld3
import Derived.Test.YthfbpilfdfploaaGB
import Derived.WalkSmall
import Derived.BigRegion
namespace Go.Proofs.Ythfbpilfdfploaa
open Go.RowKit

theorem dropN {α : Type} (l : List α) (k : Nat) (h : l.length ≤ k) : l.drop k = [] := List.drop_eq_nil_of_le h

theorem isNaN_any (x : Int) (w : World) : Calls Try.prog 90 #[.int .i64 x] w fun e w' => e = .returned (.bool false) ∧ w' = w := by
  have h : (x != x) = false := by simp
  go_enter Try.func90, Try.ntmps90
  go_wp2
  go_ret
  exact ⟨rfl, rfl⟩

set_option maxHeartbeats 400000 in
theorem compare_any (x y : Int) (w : World) : Calls Try.prog 96 #[.int .i64 x, .int .i64 y] w fun e w' => e = .returned (.int .i64 (Idn.cmpI x y)) ∧ w' = w := by
  have H1 : Hid (Calls Try.prog 90 #[.int .i64 x] w fun e w' => e = .returned (.bool false) ∧ w' = w) := isNaN_any x w
  have H2 : Hid (Calls Try.prog 90 #[.int .i64 y] w fun e w' => e = .returned (.bool false) ∧ w' = w) := isNaN_any y w
  by_cases h : x < y
  · have HE : Hid (Idn.cmpI x y = -1) := by show _ = _; simp [Idn.cmpI, h]
    go_enter Try.func96, Try.ntmps96
    go_wp2_with fail
    refine H1.out.mono ?_
    rintro e1 w1 ⟨rfl, hw1⟩; obtain rfl := hw1.symm
    go_wp2_with fail
    refine H2.out.mono ?_
    rintro e1 w1 ⟨rfl, hw1⟩; obtain rfl := hw1.symm
    go_wp2
    go_ret
    exact ⟨by rw [HE.out]; rfl, rfl⟩
  · by_cases h2 : y < x
    · have HE : Hid (Idn.cmpI x y = 1) := by show _ = _; simp [Idn.cmpI, h, h2]
      go_enter Try.func96, Try.ntmps96
      go_wp2_with fail
      refine H1.out.mono ?_
      rintro e1 w1 ⟨rfl, hw1⟩; obtain rfl := hw1.symm
      go_wp2_with fail
      refine H2.out.mono ?_
      rintro e1 w1 ⟨rfl, hw1⟩; obtain rfl := hw1.symm
      go_wp2
      go_ret
      exact ⟨by rw [HE.out]; rfl, rfl⟩
    · have HE : Hid (Idn.cmpI x y = 0) := by show _ = _; simp [Idn.cmpI, h, h2]
      go_enter Try.func96, Try.ntmps96
      go_wp2_with fail
      refine H1.out.mono ?_
      rintro e1 w1 ⟨rfl, hw1⟩; obtain rfl := hw1.symm
      go_wp2_with fail
      refine H2.out.mono ?_
      rintro e1 w1 ⟨rfl, hw1⟩; obtain rfl := hw1.symm
      go_wp2
      go_ret
      exact ⟨by rw [HE.out]; rfl, rfl⟩

def orL : List Int → Int
  | [] => 0
  | x :: l => Idn.orI x (orL l)

set_option maxHeartbeats 400000 in
theorem or_any (l : List Int) (ad : Option Addr) (cap : Nat) (w : World) (hL : IntsAt w ad l) (hn : l.length ≤ 1000) :
    Calls Try.prog 95 #[.slice ad l.length cap] w fun e w' => e = .returned (.int .i64 (orL l)) ∧ w' = w := by
  have HL : Hid (IntsAt w ad l) := hL
  clear hL
  go_enter Try.func95, Try.ntmps95
  go_wp2
  go_loop [8] (fun i => ∃ k : Nat, k ≤ l.length ∧ i = .int .i64 k ∧ orL l = orL (l.drop k)) (fun i => l.length - (intOf i).toNat)
  case atStart => exact ⟨0, by omega, rfl, rfl⟩
  case round =>
    obtain ⟨k, hk, rfl, hp⟩ := hrel
    have HP : Hid (orL l = orL (l.drop k)) := hp
    clear hp
    by_cases hlt : k < l.length
    · obtain ⟨b, off, rfl, hbl, hc⟩ := HL.out k hlt
      have HP2 : Hid (orL l = Idn.orI l[k] (orL (l.drop (k + 1)))) := by
        show _ = _
        rw [HP.out, List.drop_eq_getElem_cons hlt]; rfl
      generalize l[k] = o at *
      by_cases h0 : o = 0
      · subst h0
        go_wp2
        go_round
        case rel => exact ⟨k + 1, by omega, by go_num, HP2.out⟩
        case measure => simp [intOf]; omega
      · have hne : (o != 0) = true := by rw [bne_iff_ne]; exact h0
        have HF : Hid (orL l = o) := by show _ = _; rw [HP2.out, Idn.orI, if_neg h0]
        go_wp2
        go_ret
        exact ⟨by rw [HF.out]; rfl, rfl⟩
    · have HF : Hid (orL l = 0) := by show _ = _; rw [HP.out, List.drop_eq_nil_of_le (by omega)]; rfl
      go_wp2
      go_ret
      exact ⟨by rw [HF.out]; rfl, rfl⟩

theorem ints_lit2 (w : World) (a b : Int) (t : TypeId) (g : Nat) (hg : g = w.heap.size) : IntsAt (w.alloc (.cells #[.int .i64 a, .int .i64 b] t)) (some ⟨g, 0, none⟩) [a, b] := by
  subst hg
  intro j hj
  refine ⟨_, _, rfl, by simp, ?_⟩
  match j, hj with
  | 0, _ => simp
  | 1, _ => simp
theorem ints_lit3 (w : World) (a b c : Int) (t : TypeId) (g : Nat) (hg : g = w.heap.size) : IntsAt (w.alloc (.cells #[.int .i64 a, .int .i64 b, .int .i64 c] t)) (some ⟨g, 0, none⟩) [a, b, c] := by
  subst hg
  intro j hj
  refine ⟨_, _, rfl, by simp, ?_⟩
  match j, hj with
  | 0, _ => simp
  | 1, _ => simp
  | 2, _ => simp

set_option maxHeartbeats 2000000 in
set_option maxRecDepth 100000 in
theorem compareHops_any (x y : Int × Int) (w : World) : Calls Try.prog 98 #[.agg #[.int .i64 x.1, .int .i64 x.2], .agg #[.int .i64 y.1, .int .i64 y.2]] w fun e w' => e = .returned (.int .i64 (Idn.cmpP x y)) ∧ Gr w w' := by
  have HE : Hid (Idn.cmpP x y = orL [Idn.cmpI x.1 y.1, Idn.cmpI x.2 y.2]) := by
    show _ = _
    unfold Idn.cmpP orL orL orL Idn.orI
    split <;> (try split) <;> omega
  obtain ⟨x1, x2⟩ := x
  obtain ⟨y1, y2⟩ := y
  simp only at *
  have HC : Hid (∀ (a b : Int) (w' : World), Calls Try.prog 96 #[.int .i64 a, .int .i64 b] w' fun e w2 => e = .returned (.int .i64 (Idn.cmpI a b)) ∧ w2 = w') := compare_any
  have H3 : Hid (∀ (a b : Int) (w' : World) (g : Nat), IntsAt w' (some ⟨g, 0, none⟩) [a, b] → Calls Try.prog 95 #[.slice (some ⟨g, 0, none⟩) 2 2] w' fun e w2 => e = .returned (.int .i64 (orL [a, b])) ∧ w2 = w') := fun a b w' g h => or_any [a, b] _ 2 w' h (by simp)
  go_enter Try.func98, Try.ntmps98
  go_wp2
  go_region_held3 (fun w' => w'.cell? ⟨w.heap.size, 0, none⟩ = some (.int .i64 x1) ∧ w'.cell? ⟨w.heap.size, 1, none⟩ = some (.int .i64 x2) ∧ w'.cell? ⟨w.heap.size + 1, 0, none⟩ = some (.int .i64 y1) ∧ w'.cell? ⟨w.heap.size + 1, 1, none⟩ = some (.int .i64 y2)) (go_keep) ((first | (go_at_call 96; refine (HC.out _ _ _).mono ?_; rintro e w2 ⟨rfl, rfl⟩) | (go_at_call 95; refine (H3.out (Idn.cmpI x1 y1) (Idn.cmpI x2 y2) _ _ ?_).mono ?_; (exact ints_lit2 _ _ _ _ _ (by simp)); rintro e w2 ⟨rfl, rfl⟩)))
  all_goals go_wp2
  all_goals go_ret
  all_goals exact ⟨by rw [HE.out]; rfl, (by repeat(first|exact Gr.r _|refine Gr.a ?_|refine Gr.d ?_|refine Gr.t ?_ (by assumption)))⟩

set_option maxHeartbeats 1000000 in
set_option maxRecDepth 100000 in
theorem compareFunc_any (L M : List (Int × Int)) (ad ad2 : Option Addr) (cap cap2 : Nat) (w : World) (hL : HopsAt w ad L) (hM : HopsAt w ad2 M) (hn : L.length ≤ 9223372036854775807) (hm : M.length ≤ 9223372036854775807) :
    Calls Try.prog 97 #[.slice ad L.length cap, .slice ad2 M.length cap2, .func (.func 98) #[] #[]] w fun e w' => e = .returned (.int .i64 (Idn.cmpH L M)) ∧ Gr w w' := by
  have HL : Hid (HopsAt w ad L) := hL
  have HM : Hid (HopsAt w ad2 M) := hM
  have HC : Hid (∀ (x1 x2 y1 y2 : Int) (w' : World), Calls Try.prog 98 #[.agg #[.int .i64 x1, .int .i64 x2], .agg #[.int .i64 y1, .int .i64 y2]] w' fun e w2 => e = .returned (.int .i64 (Idn.cmpP (x1, x2) (y1, y2))) ∧ Gr w' w2) := fun x1 x2 y1 y2 w' => compareHops_any (x1, x2) (y1, y2) w'
  clear hL hM
  go_enter Try.func97, Try.ntmps97
  go_wp2
  go_loopw [13] (fun i wr => ∃ k : Nat, k ≤ L.length ∧ k ≤ M.length ∧ i = .int .i64 k ∧ Idn.cmpH L M = Idn.cmpH (L.drop k) (M.drop k) ∧ Gr w wr) (fun i _ => L.length - (intOf i).toNat)
  case atStart => exact ⟨0, by omega, by omega, rfl, rfl, Gr.refl _⟩
  case round =>
    obtain ⟨k, hk, hk2, rfl, hp, hg⟩ := hrel
    have HP : Hid (Idn.cmpH L M = Idn.cmpH (L.drop k) (M.drop k)) := hp
    clear hp
    by_cases hlt : k < L.length
    · obtain ⟨b, off, rfl, hbl, hc, hd⟩ := HL.out k hlt
      have hc' := hg.keep hc
      have hd' := hg.keep hd
      clear hc hd
      by_cases hlt2 : k < M.length
      · obtain ⟨b2, off2, rfl, hbl2, hc2, hd2⟩ := HM.out k hlt2
        have hc2' := hg.keep hc2
        have hd2' := hg.keep hd2
        have HP2 : Hid (Idn.cmpH L M = Idn.orI (Idn.cmpP L[k] M[k]) (Idn.cmpH (L.drop (k + 1)) (M.drop (k + 1)))) := by
          show _ = _
          rw [HP.out, List.drop_eq_getElem_cons hlt, List.drop_eq_getElem_cons hlt2]; rfl
        obtain ⟨⟨x1, x2⟩, hx⟩ : ∃ h, L[k] = h := ⟨_, rfl⟩
        obtain ⟨⟨y1, y2⟩, hy⟩ : ∃ h, M[k] = h := ⟨_, rfl⟩
        rw [hx] at hc' hd' HP2
        rw [hy] at hc2' hd2' HP2
        have hbw : b2 < wr.heap.size := Nat.lt_of_lt_of_le hbl2 hg.size
        have hge : ¬ ((M.length : Int) ≤ k) := by omega
        clear hc2 hd2 hx hy HP HL HM
        by_cases h0 : Idn.cmpP (x1, x2) (y1, y2) = 0
        · have HF : Hid (Idn.cmpH L M = Idn.cmpH (L.drop (k + 1)) (M.drop (k + 1))) := by show _ = _; rw [HP2.out, h0]; rfl
          have HC2 : Hid (∀ w' : World, Calls Try.prog 98 #[.agg #[.int .i64 x1, .int .i64 x2], .agg #[.int .i64 y1, .int .i64 y2]] w' fun e w2 => e = .returned (.int .i64 0) ∧ Gr w' w2) := by
            intro w'; have := HC.out x1 x2 y1 y2 w'; rw [h0] at this; exact this
          clear HC HP2 h0
          go_wp2_with fail
          refine (HC2.out _).mono ?_
          rintro e1 w1 ⟨rfl, hg1⟩
          go_wp2
          go_roundw
          case rel => exact ⟨k + 1, by omega, by omega, by go_num, HF.out, (by repeat(first|exact Gr.r _|refine Gr.a ?_|refine Gr.d ?_|refine Gr.t ?_ (by assumption)))⟩
          case measure => simp [intOf]; omega
        · have HF : Hid (Idn.cmpH L M = Idn.cmpP (x1, x2) (y1, y2)) := by show _ = _; rw [HP2.out, Idn.orI, if_neg h0]
          have HC2 : Hid (∀ w' : World, Calls Try.prog 98 #[.agg #[.int .i64 x1, .int .i64 x2], .agg #[.int .i64 y1, .int .i64 y2]] w' fun e w2 => e = .returned (.int .i64 (Idn.cmpP (x1, x2) (y1, y2))) ∧ Gr w' w2) := HC.out x1 x2 y1 y2
          generalize Idn.cmpP (x1, x2) (y1, y2) = c at *
          have hne : (c != 0) = true := by rw [bne_iff_ne]; exact h0
          clear HC HP2
          go_wp2_with fail
          refine (HC2.out _).mono ?_
          rintro e1 w1 ⟨rfl, hg1⟩
          go_wp2
          go_ret
          exact ⟨by rw [HF.out]; rfl, (by repeat(first|exact Gr.r _|refine Gr.a ?_|refine Gr.d ?_|refine Gr.t ?_ (by assumption)))⟩
      · have HF : Hid (Idn.cmpH L M = 1) := by
          show _ = _
          rw [HP.out, List.drop_eq_getElem_cons hlt, dropN M k (by omega)]; rfl
        have hge : (M.length : Int) ≤ k := by omega
        generalize L[k] = h at *
        clear HC HP HL HM
        go_wp2
        go_ret
        exact ⟨by rw [HF.out]; rfl, (by repeat(first|exact Gr.r _|refine Gr.a ?_|refine Gr.d ?_|refine Gr.t ?_ (by assumption)))⟩
    · by_cases hlt2 : L.length < M.length
      · have HF : Hid (Idn.cmpH L M = -1) := by
          show _ = _
          rw [HP.out, List.drop_eq_getElem_cons (l := M) (i := k) (by omega), dropN L k (by omega)]; rfl
        go_wp2
        go_ret
        exact ⟨by rw [HF.out]; rfl, (by repeat(first|exact Gr.r _|refine Gr.a ?_|refine Gr.d ?_|refine Gr.t ?_ (by assumption)))⟩
      · have HF : Hid (Idn.cmpH L M = 0) := by
          show _ = _
          rw [HP.out, dropN L k (by omega), dropN M k (by omega)]; rfl
        go_wp2
        go_ret
        exact ⟨by rw [HF.out]; rfl, (by repeat(first|exact Gr.r _|refine Gr.a ?_|refine Gr.d ?_|refine Gr.t ?_ (by assumption)))⟩

end Go.Proofs.Ythfbpilfdfploaa
namespace Go.Proofs.Ythfbpilfdfploaa
open Go.RowKit

set_option maxHeartbeats 2000000 in
set_option maxRecDepth 100000 in
theorem cmp_any (r n : Int) (L : List (Int × Int)) (ad : Option Addr) (cap : Nat) (r2 n2 : Int) (M : List (Int × Int)) (ad2 : Option Addr) (cap2 : Nat) (w : World) (hL : HopsAt w ad L) (hM : HopsAt w ad2 M) (hn : L.length ≤ 9223372036854775807) (hm : M.length ≤ 9223372036854775807) :
    Calls Try.prog 88 #[.agg #[.int .i64 r, .int .i64 n, .slice ad L.length cap], .agg #[.int .i64 r2, .int .i64 n2, .slice ad2 M.length cap2]] w fun e w' => e = .returned (.int .i64 (Idn.cmpE r n L r2 n2 M)) ∧ Gr w w' := by
  have HE : Hid (Idn.cmpE r n L r2 n2 M = orL [Idn.cmpI r r2, Idn.cmpI n n2, Idn.cmpH L M]) := by
    show _ = _
    unfold Idn.cmpE orL orL orL orL Idn.orI
    split <;> (try split) <;> (try split) <;> omega
  have HC : Hid (∀ (a b : Int) (w' : World), Calls Try.prog 96 #[.int .i64 a, .int .i64 b] w' fun e w2 => e = .returned (.int .i64 (Idn.cmpI a b)) ∧ w2 = w') := compare_any
  have H3 : Hid (∀ (a b c : Int) (w' : World) (g : Nat), IntsAt w' (some ⟨g, 0, none⟩) [a, b, c] → Calls Try.prog 95 #[.slice (some ⟨g, 0, none⟩) 3 3] w' fun e w2 => e = .returned (.int .i64 (orL [a, b, c])) ∧ w2 = w') := fun a b c w' g h => or_any [a, b, c] _ 3 w' h (by simp)
  have HF : Hid (∀ w', Gr w w' → Calls Try.prog 97 #[.slice ad L.length cap, .slice ad2 M.length cap2, .func (.func 98) #[] #[]] w' fun e w2 => e = .returned (.int .i64 (Idn.cmpH L M)) ∧ Gr w' w2) := fun w' g => compareFunc_any L M ad ad2 cap cap2 w' (hL.gr g) (hM.gr g) hn hm
  clear hL hM
  go_enter Try.func88, Try.ntmps88
  go_wp2
  go_region_held3 (fun w' => Gr w w' ∧ w'.cell? ⟨w.heap.size, 0, none⟩ = some (.int .i64 r) ∧ w'.cell? ⟨w.heap.size, 1, none⟩ = some (.int .i64 n) ∧ w'.cell? ⟨w.heap.size, 2, none⟩ = some (.slice ad L.length cap) ∧ w'.cell? ⟨w.heap.size + 1, 0, none⟩ = some (.int .i64 r2) ∧ w'.cell? ⟨w.heap.size + 1, 1, none⟩ = some (.int .i64 n2) ∧ w'.cell? ⟨w.heap.size + 1, 2, none⟩ = some (.slice ad2 M.length cap2))
    ((go_split_ands; refine ⟨?_, ?_, ?_, ?_, ?_, ?_, ?_⟩ <;> first | assumption | go_keep | exact Gr.keep (by assumption) (by assumption) | exact (by repeat(first|exact Gr.r _|refine Gr.a ?_|refine Gr.d ?_|refine Gr.t ?_ (by assumption)))))
    ((first | (go_at_call 96; refine (HC.out _ _ _).mono ?_; rintro e w2 ⟨rfl, rfl⟩) | (go_at_call 97; refine (HF.out _ ?_).mono ?_; (go_split_ands; exact (by repeat(first|exact Gr.r _|refine Gr.a ?_|refine Gr.d ?_|refine Gr.t ?_ (by assumption)))); rintro e w2 ⟨rfl, hg2⟩) | (go_at_call 95; refine (H3.out (Idn.cmpI r r2) (Idn.cmpI n n2) (Idn.cmpH L M) _ _ ?_).mono ?_; (exact ints_lit3 _ _ _ _ _ _ (by simp)); rintro e w2 ⟨rfl, rfl⟩)))
  all_goals go_wp2
  all_goals go_ret
  all_goals exact ⟨by rw [HE.out]; rfl, (by repeat(first|exact Gr.r _|refine Gr.a ?_|refine Gr.d ?_|refine Gr.t ?_ (by assumption)))⟩
end Go.Proofs.Ythfbpilfdfploaa
namespace Go.Proofs.Ythfbpilfdfploaa
open Go.RowKit

variable {Z : Nat → Prop}
theorem tx_eq (s t : ByteArray) : (s.toList == t.toList) = decide (s = t) := by
  rw [ByteArray.toList_eq, ByteArray.toList_eq]
  by_cases h : s = t
  · subst h; simp
  · rw [decide_eq_false h, beq_eq_false_iff_ne]
    intro e
    exact h (by cases s; cases t; simp at e; subst e; rfl)
set_option maxHeartbeats 400000 in
theorem oWithin_any (n l h : Int) (w : World) : Calls Try.prog 61 #[.int .i64 n, .int .i64 l, .int .i64 h] w fun e w' => e = .returned (.bool (Nt.inB n l h)) ∧ w' = w := by
  unfold Nt.inB
  by_cases a : l ≤ n
  · rw [decide_eq_true a, Bool.true_and]
    go_enter Try.func61, Try.ntmps61
    go_wp2
    go_ret
    exact ⟨rfl, rfl⟩
  · rw [decide_eq_false a, Bool.false_and]
    go_enter Try.func61, Try.ntmps61
    go_wp2
    go_ret
    exact ⟨rfl, rfl⟩
theorem tm_in (n : Int) : Nt.inB n 0 1000000000 = Ox.tmB n := by unfold Nt.inB Ox.tmB; rw [Bool.eq_iff_iff]; simp
set_option maxHeartbeats 400000 in
theorem isTime_any (n : Int) (w : World) : Calls Try.prog 62 #[.int .i64 n] w fun e w' => e = .returned (.bool (Ox.tmB n)) ∧ w' = w := by
  have HW : Hid (∀ w', Calls Try.prog 61 #[.int .i64 n, .int .i64 0, .int .i64 1000000000] w' fun e w2 => e = .returned (.bool (Ox.tmB n)) ∧ w2 = w') := fun w' => by rw [← tm_in]; exact oWithin_any n 0 1000000000 w'
  generalize Ox.tmB n = b at *
  go_enter Try.func62, Try.ntmps62
  go_wp2_with fail
  refine (HW.out _).mono ?_
  rintro e1 w1 ⟨rfl, hw1⟩; obtain rfl := hw1.symm
  go_wp2
  go_ret
  exact ⟨rfl, rfl⟩

/- are two notes the same? -/
theorem same_parts (k r n : Int) (L : List (Int × Int)) (d : ByteArray) (y k2 r2 n2 : Int) (M : List (Int × Int)) (d2 : ByteArray) (y2 : Int) (c : Bool) (hc : c = decide (r = r2 ∧ n = n2 ∧ L = M)) :
    decide (pk ⟨k, r, n, L, d, y⟩ = pk ⟨k2, r2, n2, M, d2, y2⟩) = ((k == k2) && c && (d.toList == d2.toList) && (y == y2)) := by
  rw [tx_eq, hc, Bool.eq_iff_iff]
  simp only [pk, Prod.mk.injEq, decide_eq_true_eq, Bool.and_eq_true, beq_iff_eq]
  constructor
  · rintro ⟨⟨h1, h2, h3⟩, h4, h5, h6⟩; exact ⟨⟨⟨h1, h2, h3, h4⟩, h5⟩, h6⟩
  · rintro ⟨⟨⟨h1, h2, h3, h4⟩, h5⟩, h6⟩; exact ⟨⟨h1, h2, h3⟩, h4, h5, h6⟩
set_option maxHeartbeats 2000000 in
set_option maxRecDepth 100000 in
theorem oSame_any (m m2 : Mn) (w : World) (h : MnAt Z w m) (h2 : MnAt Z w m2) :
    Calls Try.prog 68 #[m.v, m2.v] w fun e w' => e = .returned (.bool (decide (pk m.x = pk m2.x))) ∧ Gr w w' := by
  obtain ⟨⟨k, r, n, L, d, y⟩, ad, cap⟩ := m
  obtain ⟨⟨k2, r2, n2, M, d2, y2⟩, ad2, cap2⟩ := m2
  have HC : Hid (∀ w', Gr w w' → Calls Try.prog 88 #[.agg #[.int .i64 r, .int .i64 n, .slice ad L.length cap], .agg #[.int .i64 r2, .int .i64 n2, .slice ad2 M.length cap2]] w' fun e w2 => e = .returned (.int .i64 (Idn.cmpE r n L r2 n2 M)) ∧ Gr w' w2) := fun w' g => cmp_any r n L ad cap r2 n2 M ad2 cap2 w' (h.hp.gr g) (h2.hp.gr g) h.hl h2.hl
  have hz := Idn.cmpE_zero r n L r2 n2 M
  have HE := Lib.hid (same_parts k r n L d y k2 r2 n2 M d2 y2 (Idn.cmpE r n L r2 n2 M == 0) (by rw [Bool.eq_iff_iff, decide_eq_true_iff, beq_iff_eq, hz]))
  generalize Idn.cmpE r n L r2 n2 M = c at *
  clear h h2 hz
  dsimp only [Mn.v] at *
  generalize L.length = ll at *
  generalize M.length = ml at *
  generalize decide (pk ⟨k, r, n, L, d, y⟩ = pk ⟨k2, r2, n2, M, d2, y2⟩) = R at *
  cases hk : (k == k2) with
  | false =>
    rw [hk] at HE
    go_enter Try.func68, Try.ntmps68
    go_wp2
    go_ret
    exact ⟨by rw [HE.out]; rfl, (by repeat(first|exact Gr.r _|refine Gr.a ?_|refine Gr.d ?_|refine Gr.t ?_ (by assumption)))⟩
  | true =>
    rw [hk] at HE
    go_enter Try.func68, Try.ntmps68
    go_wp2_with fail
    refine (HC.out _ ?_).mono ?_
    · exact (by repeat(first|exact Gr.r _|refine Gr.a ?_|refine Gr.d ?_|refine Gr.t ?_ (by assumption)))
    rintro e1 w1 ⟨rfl, hg1⟩
    have B1 := ((Cs.new w [.int .i64 k, .int .i64 r, .int .i64 n, .slice ad ll cap, .string d, .int .i64 y] 26 _ rfl).alloc (o := .cells #[.int .i64 k2, .int .i64 r2, .int .i64 n2, .slice ad2 ml cap2, .string d2, .int .i64 y2] 26)).gr hg1
    have D1 := (Cs.new (w.alloc (.cells #[.int .i64 k, .int .i64 r, .int .i64 n, .slice ad ll cap, .string d, .int .i64 y] 26)) [.int .i64 k2, .int .i64 r2, .int .i64 n2, .slice ad2 ml cap2, .string d2, .int .i64 y2] 26 (w.heap.size + 1) (by simp)).gr hg1
    have c4 := B1.at_ 4 _ rfl
    have c5 := B1.at_ 5 _ rfl
    have clt := B1.lt
    have d4 := D1.at_ 4 _ rfl
    have d5 := D1.at_ 5 _ rfl
    have dlt := D1.lt
    cases hc : (c == 0) with
    | false =>
      rw [hc] at HE
      go_wp2
      go_ret
      exact ⟨by rw [HE.out]; rfl, (by repeat(first|exact Gr.r _|refine Gr.a ?_|refine Gr.d ?_|refine Gr.t ?_ (by assumption)))⟩
    | true =>
      rw [hc] at HE
      cases hd : (d.toList == d2.toList) with
      | false =>
        rw [hd] at HE
        go_wp2
        go_ret
        exact ⟨by rw [HE.out]; rfl, (by repeat(first|exact Gr.r _|refine Gr.a ?_|refine Gr.d ?_|refine Gr.t ?_ (by assumption)))⟩
      | true =>
        rw [hd] at HE
        go_wp2
        go_ret
        exact ⟨by rw [HE.out]; rfl, (by repeat(first|exact Gr.r _|refine Gr.a ?_|refine Gr.d ?_|refine Gr.t ?_ (by assumption)))⟩

/- the closure of has: a box with the note that is asked for -/
set_option maxHeartbeats 2000000 in
set_option maxRecDepth 100000 in
theorem hasC_any (x : Mi) (m : Mn) (g : Nat) (w : World) (hx : MnAt Z w x.m) (hm : MnAt Z w m) (hb : Cs w g (nC m)) :
    Calls Try.prog 67 #[x.v, .pointer (some ⟨g, 0, none⟩)] w fun e w' => e = .returned (.bool (decide (pk x.m.x = pk m.x))) ∧ Gr w w' := by
  have HS : Hid (∀ w', Gr w w' → Calls Try.prog 68 #[x.m.v, m.v] w' fun e w2 => e = .returned (.bool (decide (pk x.m.x = pk m.x))) ∧ Gr w' w2) := fun w' g => oSame_any x.m m w' (hx.gr g) (hm.gr g)
  generalize decide (pk x.m.x = pk m.x) = R at *
  obtain ⟨q, dd, s, ⟨⟨k, r, n, L, d, y⟩, ad, cap⟩⟩ := x
  obtain ⟨⟨k2, r2, n2, M, d2, y2⟩, ad2, cap2⟩ := m
  have c0 := hb.at_ 0 _ rfl
  have c1 := hb.at_ 1 _ rfl
  have c2 := hb.at_ 2 _ rfl
  have c3 := hb.at_ 3 _ rfl
  have c4 := hb.at_ 4 _ rfl
  have c5 := hb.at_ 5 _ rfl
  have clt := hb.lt
  clear hb hx hm
  dsimp only [Mn.v, Mi.v] at *
  generalize L.length = ll at *
  generalize M.length = ml at *
  go_enter Try.func67, Try.ntmps67
  go_wp2_with fail
  refine (HS.out _ ?_).mono ?_
  · exact (by repeat(first|exact Gr.r _|refine Gr.a ?_|refine Gr.d ?_|refine Gr.t ?_ (by assumption)))
  rintro e1 w1 ⟨rfl, hg1⟩
  go_wp2
  go_ret
  exact ⟨rfl, (by repeat(first|exact Gr.r _|refine Gr.a ?_|refine Gr.d ?_|refine Gr.t ?_ (by assumption)))⟩

/- where the first such item is -/
def ixI (D : List Mi) (p : Nx) : Nat → Int
  | 0 => -1
  | n + 1 => if h : D.length - (n + 1) < D.length then (if pk D[D.length - (n + 1)].m.x = p then ((D.length - (n + 1) : Nat) : Int) else ixI D p n) else -1
theorem among_its (D : List Mi) (p : Nx) : Ox.among (its D) p = true ↔ ∃ (j : Nat) (h : j < D.length), pk D[j].m.x = p := by
  rw [Ox.among_iff]
  constructor
  · rintro ⟨x, hx, e⟩
    obtain ⟨y, hy, rfl⟩ := List.mem_map.1 hx
    obtain ⟨j, hj, rfl⟩ := List.getElem_of_mem hy
    exact ⟨j, hj, e⟩
  · rintro ⟨j, hj, e⟩
    exact ⟨D[j].it, List.mem_map.2 ⟨_, List.getElem_mem hj, rfl⟩, e⟩
theorem among_no {D : List Mi} {p : Nx} (h : ∀ (j : Nat) (hj : j < D.length), pk D[j].m.x ≠ p) : Ox.among (its D) p = false := by
  cases e : Ox.among (its D) p with
  | false => rfl
  | true =>
    obtain ⟨j, hj, e2⟩ := (among_its D p).1 e
    exact absurd e2 (h j hj)
set_option maxHeartbeats 4000000 in
set_option maxRecDepth 100000 in
theorem indexFunc_any (D : List Mi) (m : Mn) (ad : Option Addr) (cap g : Nat) (w : World) (hD : ItsAt Z w ad D) (hn : D.length ≤ 9223372036854775807) (hm : MnAt Z w m) (hb : Cs w g (nC m)) :
    Calls Try.prog 87 #[.slice ad D.length cap, .func (.func 67) #[] #[.pointer (some ⟨g, 0, none⟩)]] w fun e w' => ∃ i : Int, e = .returned (.int .i64 i) ∧ decide (0 ≤ i) = Ox.among (its D) (pk m.x) ∧ Gr w w' := by
  have HC : Hid (∀ x ∈ D, ∀ w', Gr w w' → Calls Try.prog 67 #[x.v, .pointer (some ⟨g, 0, none⟩)] w' fun e w2 => e = .returned (.bool (decide (pk x.m.x = pk m.x))) ∧ Gr w' w2) := fun x hx w' gr => hasC_any x m g w' ((hD.nt x hx).gr gr) (hm.gr gr) (hb.gr gr)
  have HD := Lib.hid hD.row
  have HA : Hid (∀ (j : Nat) (hj : j < D.length), pk D[j].m.x = pk m.x → Ox.among (its D) (pk m.x) = true) := fun j hj e => (among_its D _).2 ⟨j, hj, e⟩
  have HN : Hid ((∀ (j : Nat) (hj : j < D.length), pk D[j].m.x ≠ pk m.x) → Ox.among (its D) (pk m.x) = false) := among_no
  generalize Ox.among (its D) (pk m.x) = R at *
  generalize pk m.x = p at *
  clear hD hm hb
  go_enter Try.func87, Try.ntmps87
  go_wp2
  go_loopw [8] (fun s8 wr => ∃ j : Nat, s8 = .int .i64 j ∧ j ≤ D.length ∧ (∀ (i : Nat) (hi : i < D.length), i < j → pk D[i].m.x ≠ p) ∧ Gr w wr) (fun s8 _ => D.length - (intOf s8).toNat)
  case atStart => exact ⟨0, rfl, Nat.zero_le _, fun i _ h => absurd h (Nat.not_lt_zero _), Gr.refl _⟩
  case round =>
    obtain ⟨j, rfl, hj, hno, hg⟩ := hrel
    have HNO := Lib.hid hno
    have HG := Lib.hid hg
    clear hno
    by_cases hlt : j < D.length
    · obtain ⟨b, off, rfl, hbl, d0, d1, d2, d3, d4, d5, d6, d7, d8⟩ := ItsRow.at HD.out j hlt
      have d0 := hg.keep d0
      have d1 := hg.keep d1
      have d2 := hg.keep d2
      have d3 := hg.keep d3
      have d4 := hg.keep d4
      have d5 := hg.keep d5
      have d6 := hg.keep d6
      have d7 := hg.keep d7
      have d8 := hg.keep d8
      have hbw : b < wr.heap.size := Nat.lt_of_lt_of_le hbl hg.size
      have hji : (j : Int) < (D.length : Int) := by omega
      have HX := Lib.hid (HC.out D[j] (List.getElem_mem hlt))
      have HY : Hid (pk D[j].m.x = p → R = true) := HA.out j hlt
      have HZ : Hid (¬ pk D[j].m.x = p → ∀ (i : Nat) (hi : i < D.length), i < j + 1 → pk D[i].m.x ≠ p) := by
        intro h i hi hij
        by_cases e : i = j
        · subst e; exact h
        · exact HNO.out i hi (by omega)
      clear hg
      generalize D[j] = x at *
      by_cases hq : pk x.m.x = p
      · rw [decide_eq_true hq] at HX
        have HR := Lib.hid (HY.out hq)
        clear HY HZ hq
        obtain ⟨q, dd, s, ⟨⟨k, r, n, L, d, y⟩, ad, cap⟩⟩ := x
        dsimp only [Mn.v, Mi.v] at *
        go_wp2_with fail
        refine (HX.out _ HG.out).mono ?_
        rintro e1 w1 ⟨rfl, hg1⟩
        have HG1 := Lib.hid (HG.out.trans hg1)
        clear d0 d1 d2 d3 d4 d5 d6 d7 d8
        go_wp2
        go_ret
        exact ⟨_, rfl, by rw [HR.out]; simp, HG1.out⟩
      · rw [decide_eq_false hq] at HX
        have HR := Lib.hid (HZ.out hq)
        clear HY HZ hq
        obtain ⟨q, dd, s, ⟨⟨k, r, n, L, d, y⟩, ad, cap⟩⟩ := x
        dsimp only [Mn.v, Mi.v] at *
        go_wp2_with fail
        refine (HX.out _ HG.out).mono ?_
        rintro e1 w1 ⟨rfl, hg1⟩
        have HG1 := Lib.hid (HG.out.trans hg1)
        clear d0 d1 d2 d3 d4 d5 d6 d7 d8
        go_wp2
        go_roundw
        case rel => exact ⟨j + 1, by go_num, by omega, HR.out, HG1.out⟩
        case measure => simp [intOf]; omega
    · have hge : ¬ ((j : Int) < (D.length : Int)) := by omega
      have HR := Lib.hid (HN.out (fun i hi => HNO.out i hi (by omega)))
      go_wp2
      go_ret
      exact ⟨-1, rfl, by rw [HR.out]; rfl, HG.out⟩
set_option maxHeartbeats 1000000 in
theorem containsFunc_any (D : List Mi) (m : Mn) (ad : Option Addr) (cap g : Nat) (w : World) (hD : ItsAt Z w ad D) (hn : D.length ≤ 9223372036854775807) (hm : MnAt Z w m) (hb : Cs w g (nC m)) :
    Calls Try.prog 66 #[.slice ad D.length cap, .func (.func 67) #[] #[.pointer (some ⟨g, 0, none⟩)]] w fun e w' => e = .returned (.bool (Ox.among (its D) (pk m.x))) ∧ Gr w w' := by
  have HI : Hid (∀ w', Gr w w' → Calls Try.prog 87 #[.slice ad D.length cap, .func (.func 67) #[] #[.pointer (some ⟨g, 0, none⟩)]] w' fun e w2 => ∃ i : Int, e = .returned (.int .i64 i) ∧ decide (0 ≤ i) = Ox.among (its D) (pk m.x) ∧ Gr w' w2) := fun w' gr => indexFunc_any D m ad cap g w' (hD.gr gr) hn (hm.gr gr) (hb.gr gr)
  generalize Ox.among (its D) (pk m.x) = R at *
  clear hD hm hb
  go_enter Try.func66, Try.ntmps66
  go_wp2_with fail
  refine (HI.out _ ?_).mono ?_
  · exact (by repeat(first|exact Gr.r _|refine Gr.a ?_|refine Gr.d ?_|refine Gr.t ?_ (by assumption)))
  rintro e1 w1 ⟨i, rfl, hi, hg1⟩
  have HI2 := Lib.hid hi
  clear hi
  go_wp2
  go_ret
  exact ⟨by rw [← HI2.out]; rfl, (by repeat(first|exact Gr.r _|refine Gr.a ?_|refine Gr.d ?_|refine Gr.t ?_ (by assumption)))⟩
set_option maxHeartbeats 1000000 in
theorem has_any (D : List Mi) (m : Mn) (ad : Option Addr) (cap : Nat) (w : World) (hD : ItsAt Z w ad D) (hn : D.length ≤ 9223372036854775807) (hm : MnAt Z w m) :
    Calls Try.prog 43 #[.slice ad D.length cap, m.v] w fun e w' => e = .returned (.bool (Ox.among (its D) (pk m.x))) ∧ Gr w w' := by
  have HI : Hid (Calls Try.prog 66 #[.slice ad D.length cap, .func (.func 67) #[] #[.pointer (some ⟨w.heap.size, 0, none⟩)]] (w.alloc (.cells (nC m).toArray 26)) fun e w2 => e = .returned (.bool (Ox.among (its D) (pk m.x))) ∧ Gr (w.alloc (.cells (nC m).toArray 26)) w2) := containsFunc_any D m ad cap _ _ (hD.gr (Gr.refl _).alloc) hn (hm.gr (Gr.refl _).alloc) (Cs.new w (nC m) 26 _ rfl)
  generalize Ox.among (its D) (pk m.x) = R at *
  clear hD hm
  obtain ⟨⟨k, r, n, L, d, y⟩, ad2, cap2⟩ := m
  dsimp only [Mn.v, nC] at *
  generalize L.length = ll at *
  go_enter Try.func43, Try.ntmps43
  have hmf : ∀ (fn : Fn) (first cap : Array Value) (w : World), (Instr.makeFunc fn first cap).run Try.prog w = .ok (.func fn first cap) w := fun _ _ _ _ => rfl
  go_wp2_with fail
  refine HI.out.mono ?_
  rintro e1 w1 ⟨rfl, hg1⟩
  go_wp2
  go_ret
  exact ⟨rfl, (by repeat(first|exact Gr.r _|refine Gr.a ?_|refine Gr.d ?_|refine Gr.t ?_ (by assumption)))⟩
end Go.Proofs.Ythfbpilfdfploaa
namespace Go.Proofs.Ythfbpilfdfploaa
open Go.RowKit

theorem aLetter_any (b : UInt8) (w : World) : Calls Try.prog 101 #[.int .u8 (b.toNat : Int)] w fun e w' => e = .returned (.bool (Act.letB b)) ∧ w' = w := by
  unfold Act.letB
  by_cases h0 : (97 : Int) ≤ (b.toNat : Int)
  · by_cases h1 : (b.toNat : Int) ≤ 122
    · rw [decide_eq_true h0, decide_eq_true h1]
      go_enter Try.func101, Try.ntmps101
      go_wp2
      go_ret
      exact ⟨rfl, rfl⟩
    · rw [decide_eq_true h0, decide_eq_false h1]
      go_enter Try.func101, Try.ntmps101
      go_wp2
      go_ret
      exact ⟨rfl, rfl⟩
  · rw [decide_eq_false h0]
    go_enter Try.func101, Try.ntmps101
    go_wp2
    go_ret
    exact ⟨rfl, rfl⟩
theorem aDigit_any (b : UInt8) (w : World) : Calls Try.prog 102 #[.int .u8 (b.toNat : Int)] w fun e w' => e = .returned (.bool (Act.digB b)) ∧ w' = w := by
  unfold Act.digB
  by_cases h0 : (48 : Int) ≤ (b.toNat : Int)
  · by_cases h1 : (b.toNat : Int) ≤ 57
    · rw [decide_eq_true h0, decide_eq_true h1]
      go_enter Try.func102, Try.ntmps102
      go_wp2
      go_ret
      exact ⟨rfl, rfl⟩
    · rw [decide_eq_true h0, decide_eq_false h1]
      go_enter Try.func102, Try.ntmps102
      go_wp2
      go_ret
      exact ⟨rfl, rfl⟩
  · rw [decide_eq_false h0]
    go_enter Try.func102, Try.ntmps102
    go_wp2
    go_ret
    exact ⟨rfl, rfl⟩

set_option maxHeartbeats 4000000 in
set_option maxRecDepth 100000 in
theorem name_any (s : ByteArray) (w : World) (hs : s.size ≤ 9223372036854775807) : Calls Try.prog 92 #[.string s] w fun e w' => e = .returned (.bool (Act.nameB s)) ∧ w' = w := by
  by_cases hz : s.size = 0
  · have HE : Hid (Act.nameB s = false) := Act.name_empty s hz
    have hb : (s.toList == []) = true := by
      rw [show s.toList = s.data.toList from ByteArray.toList_eq s]
      have hl : s.data.toList.length = s.size := by simp
      rw [List.length_eq_zero_iff.1 (hl.trans hz)]; rfl
    go_enter Try.func92, Try.ntmps92
    go_wp2
    go_ret
    exact ⟨by rw [HE.out]; rfl, rfl⟩
  have hb : (s.toList == []) = false := by
    rw [show s.toList = s.data.toList from ByteArray.toList_eq s]
    have hl : s.data.toList.length = s.size := by simp
    rw [beq_eq_false_iff_ne]
    intro e; rw [e] at hl; simp at hl; omega
  have hp : 0 < s.size := by omega
  by_cases h16 : (16 : Int) < (s.size : Int)
  · have HE : Hid (Act.nameB s = false) := Act.name_long s (by omega)
    go_enter Try.func92, Try.ntmps92
    go_wp2
    go_ret
    exact ⟨by rw [HE.out]; rfl, rfl⟩
  have HL : Hid (∀ (b : UInt8) (w : World), Calls Try.prog 101 #[.int .u8 (b.toNat : Int)] w fun e w' => e = .returned (.bool (Act.letB b)) ∧ w' = w) := aLetter_any
  have HD : Hid (∀ (b : UInt8) (w : World), Calls Try.prog 102 #[.int .u8 (b.toNat : Int)] w fun e w' => e = .returned (.bool (Act.digB b)) ∧ w' = w) := aDigit_any
  cases h0 : Act.letB (s[0]'hp) with
  | false =>
    have HE : Hid (Act.nameB s = false) := Act.name_head s hp h0
    go_enter Try.func92, Try.ntmps92
    go_wp2_with fail
    refine (HL.out (s[0]'hp) _).mono ?_
    rintro e w1 ⟨rfl, hw1⟩; obtain rfl := hw1.symm
    go_wp2
    go_ret
    exact ⟨by rw [HE.out]; rfl, rfl⟩
  | true =>
    go_enter Try.func92, Try.ntmps92
    go_wp2_with fail
    refine (HL.out (s[0]'hp) _).mono ?_
    rintro e w1 ⟨rfl, hw1⟩; obtain rfl := hw1.symm
    go_wp2
    go_loop [19] (fun i => ∃ k : Nat, k ≤ s.size ∧ i = .int .i64 k ∧ ∀ j (hj : j < s.size), j < k → Act.sgnB (s[j]'hj) = true) (fun i => s.size - (intOf i).toNat)
    case atStart => exact ⟨0, by omega, rfl, fun j hj h => absurd h (by omega)⟩
    case round =>
      obtain ⟨k, hk, rfl, hall⟩ := hrel
      have HA : Hid (∀ j (hj : j < s.size), j < k → Act.sgnB (s[j]'hj) = true) := hall
      clear hall
      by_cases hlt : k < s.size
      · cases hlk : Act.letB (s[k]'hlt) with
        | true =>
          have HS : Hid (Act.sgnB (s[k]'hlt) = true) := Act.sgn_let hlk
          go_wp2_with fail
          refine (HL.out (s[k]'hlt) _).mono ?_
          rintro e w1 ⟨rfl, hw1⟩; obtain rfl := hw1.symm
          go_wp2
          go_round
          case rel => exact ⟨k + 1, by omega, by go_num, fun j hj h => if e : j = k then by subst e; exact HS.out else HA.out j hj (by omega)⟩
          case measure => simp [intOf]; omega
        | false =>
          cases hdk : Act.digB (s[k]'hlt) with
          | true =>
            have HS : Hid (Act.sgnB (s[k]'hlt) = true) := Act.sgn_dig hdk
            go_wp2_with fail
            refine (HL.out (s[k]'hlt) _).mono ?_
            rintro e w1 ⟨rfl, hw1⟩; obtain rfl := hw1.symm
            go_wp2_with fail
            refine (HD.out (s[k]'hlt) _).mono ?_
            rintro e w1 ⟨rfl, hw1⟩; obtain rfl := hw1.symm
            go_wp2
            go_round
            case rel => exact ⟨k + 1, by omega, by go_num, fun j hj h => if e : j = k then by subst e; exact HS.out else HA.out j hj (by omega)⟩
            case measure => simp [intOf]; omega
          | false =>
            have HE : Hid (Act.nameB s = false) := Act.name_sign s k hlt (Act.sgn_no hlk hdk)
            go_wp2_with fail
            refine (HL.out (s[k]'hlt) _).mono ?_
            rintro e w1 ⟨rfl, hw1⟩; obtain rfl := hw1.symm
            go_wp2_with fail
            refine (HD.out (s[k]'hlt) _).mono ?_
            rintro e w1 ⟨rfl, hw1⟩; obtain rfl := hw1.symm
            go_wp2
            go_ret
            exact ⟨by rw [HE.out]; rfl, rfl⟩
      · have HE : Hid (Act.nameB s = true) := Act.name_yes s hp (by omega) h0 (fun j hj => HA.out j hj (by omega))
        go_wp2
        go_ret
        exact ⟨by rw [HE.out]; rfl, rfl⟩
end Go.Proofs.Ythfbpilfdfploaa
namespace Go.Proofs.Ythfbpilfdfploaa.Bo

def delE (n : Int) : Int := if n < 1 then 1 else if n = 1 then 2 else if n = 2 then 4 else 8
def nextB (now : Int) : Bool := decide (0 ≤ now) && decide (now ≤ 1000000000)
def nextE (now n : Int) : Int := if nextB now = true then now + delE n else 0
def nextF (now : Int) : Int := if nextB now = true then 0 else 110
def sumE : List Int → Int
  | [] => 0
  | n :: l => delE n + sumE l
def totE (l : List Int) : Int := if 1000 < l.length then 0 else sumE l
def totF (l : List Int) : Int := if 1000 < l.length then 3 else 0
def capE (s : Int) : Int := if 1000000 < s then 1000000 else s
def inE (s : Int) : Int := if s < 1 then 0 else if s < 3 then 1 else if s < 7 then 2 else 3 + (s - 7) / 8
def withE (s : Int) : Int := inE (capE s)
/- what the first n delays are together -/
def firstE : Nat → Int
  | 0 => 0
  | n + 1 => firstE n + delE n

theorem del_base {n : Int} (h : n < 1) : delE n = 1 := by unfold delE; rw [if_pos h]
theorem del_cap {n : Int} (h : 2 < n) : delE n = 8 := by unfold delE; rw [if_neg (by omega), if_neg (by omega), if_neg (by omega)]
theorem del_range (n : Int) : 1 ≤ delE n ∧ delE n ≤ 8 := by unfold delE; split <;> (try split) <;> (try split) <;> omega
theorem del_mono {a b : Int} (h : a ≤ b) : delE a ≤ delE b := by
  unfold delE; repeat' split
  all_goals omega
theorem del_twice (a : Int) : delE (a + 1) ≤ 2 * delE a := by
  unfold delE; repeat' split
  all_goals omega
/- the document's own words: the base doubled as often, but at most the cap -/
theorem del_pow (n : Nat) : delE n = if (2 : Int) ^ n < 8 then 2 ^ n else 8 := by
  match n with
  | 0 => rfl
  | 1 => rfl
  | 2 => rfl
  | k + 3 =>
    have h : (0 : Int) < 2 ^ k := Int.pow_pos (by decide)
    have h2 : (2 : Int) ^ (k + 3) = 8 * 2 ^ k := by rw [Int.pow_succ, Int.pow_succ, Int.pow_succ]; omega
    rw [del_cap (by omega), if_neg (by omega)]
/- doubling up to the cap, a step more -/
theorem del_step (n : Nat) : delE (n + 1) = if 2 * delE n < 8 then 2 * delE n else 8 := by
  unfold delE; repeat' split
  all_goals omega
theorem sum_nil : sumE [] = 0 := rfl
theorem sum_snoc (l : List Int) (n : Int) : sumE (l ++ [n]) = sumE l + delE n := by
  induction l with
  | nil => show delE n + 0 = 0 + delE n; omega
  | cons a l ih => show delE a + sumE (l ++ [n]) = delE a + sumE l + delE n; rw [ih]; omega
theorem sum_range (l : List Int) : (l.length : Int) ≤ sumE l ∧ sumE l ≤ 8 * l.length := by
  induction l with
  | nil => exact ⟨Int.le_refl 0, Int.le_refl 0⟩
  | cons a l ih =>
    have := del_range a
    show ((l.length + 1 : Nat) : Int) ≤ delE a + sumE l ∧ delE a + sumE l ≤ 8 * ((l.length + 1 : Nat) : Int)
    omega
theorem sum_take (l : List Int) (i : Nat) (h : i < l.length) : sumE (l.take (i + 1)) = sumE (l.take i) + delE l[i] := by
  rw [List.take_succ_eq_append_getElem h, sum_snoc]
theorem sum_take_range (l : List Int) (i : Nat) (h : i ≤ l.length) : 0 ≤ sumE (l.take i) ∧ sumE (l.take i) ≤ 8 * i := by
  have := sum_range (l.take i)
  rw [List.length_take, Nat.min_eq_left h] at this
  omega
theorem first_three : firstE 0 = 0 ∧ firstE 1 = 1 ∧ firstE 2 = 3 ∧ firstE 3 = 7 := ⟨rfl, rfl, rfl, rfl⟩
theorem first_far (n : Nat) (h : 3 ≤ n) : firstE n = 8 * (n : Int) - 17 := by
  induction n with
  | zero => omega
  | succ k ih =>
    show firstE k + delE k = _
    by_cases hk : 3 ≤ k
    · rw [ih hk, del_cap (by omega)]; omega
    · obtain rfl : k = 2 := by omega
      rfl
theorem first_step (n : Nat) : firstE (n + 1) = firstE n + delE n := rfl
theorem first_range (n : Nat) : (n : Int) ≤ firstE n ∧ firstE n ≤ 8 * n := by
  induction n with
  | zero => exact ⟨Int.le_refl 0, Int.le_refl 0⟩
  | succ k ih => have := del_range k; show ((k + 1 : Nat) : Int) ≤ firstE k + delE k ∧ firstE k + delE k ≤ 8 * ((k + 1 : Nat) : Int); omega
theorem first_mono {m n : Nat} (h : m ≤ n) : firstE m ≤ firstE n := by
  induction n with
  | zero => obtain rfl : m = 0 := by omega
            exact Int.le_refl _
  | succ k ih =>
    by_cases hk : m ≤ k
    · have := ih hk; have := del_range k; show firstE m ≤ firstE k + delE k; omega
    · obtain rfl : m = k + 1 := by omega
      exact Int.le_refl _
/- what fits: the first ones are together at most the span, and one more is not -/
theorem in_fits (s : Int) (h : 0 ≤ s) : 0 ≤ inE s ∧ inE s ≤ s ∧ firstE (inE s).toNat ≤ s ∧ s < firstE ((inE s).toNat + 1) := by
  obtain ⟨f0, f1, f2, f3⟩ := first_three
  unfold inE
  split
  · obtain rfl : s = 0 := by omega
    exact ⟨by omega, by omega, by show firstE 0 ≤ 0; omega, by show (0 : Int) < firstE 1; omega⟩
  · split
    · exact ⟨by omega, by omega, by show firstE 1 ≤ s; omega, by show s < firstE 2; omega⟩
    · split
      · exact ⟨by omega, by omega, by show firstE 2 ≤ s; omega, by show s < firstE 3; omega⟩
      · have a := first_far (3 + (s - 7) / 8).toNat (by omega)
        have b := first_far ((3 + (s - 7) / 8).toNat + 1) (by omega)
        rw [a, b]
        omega
/- and there is but one such number -/
theorem in_only {s : Int} {n : Nat} (h1 : firstE n ≤ s) (h2 : s < firstE (n + 1)) : inE s = n := by
  have hn := first_range n
  have := in_fits s (by omega)
  have ha : n ≤ (inE s).toNat := by
    apply Nat.le_of_not_lt; intro hc
    have := first_mono (m := (inE s).toNat + 1) (n := n) hc
    omega
  have hb : (inE s).toNat ≤ n := by
    apply Nat.le_of_not_lt; intro hc
    have := first_mono (m := n + 1) (n := (inE s).toNat) hc
    omega
  omega
theorem in_low {s : Int} (h : s < 1) : inE s = 0 := by unfold inE; rw [if_pos h]
theorem cap_range {s : Int} : capE s ≤ 1000000 := by unfold capE; split <;> omega
theorem with_range (s : Int) : 0 ≤ withE s ∧ withE s ≤ 125002 := by
  have := @cap_range s
  unfold withE inE; repeat' split
  all_goals omega
theorem with_is {s : Int} (h : s ≤ 1000000) : withE s = inE s := by unfold withE capE; rw [if_neg (by omega)]

end Go.Proofs.Ythfbpilfdfploaa.Bo
namespace Go.Proofs.Ythfbpilfdfploaa
open Go.RowKit

set_option maxHeartbeats 1000000 in
set_option maxRecDepth 100000 in
theorem delay_any (n : Int) (w : World) :
    Calls Try.prog 99 #[.int .i64 n] w fun e w' => e = .returned (.int .i64 (Bo.delE n)) ∧ w' = w := by
  go_enter Try.func99, Try.ntmps99
  go_wp2
  go_loop [3, 5] (fun d i => ∃ k : Nat, k < 3 ∧ ((k : Int) ≤ n ∨ k = 0) ∧ i = .int .i64 k ∧ d = .int .i64 (Bo.delE k)) (fun _ i => 3 - (intOf i).toNat)
  case atStart => exact ⟨0, by omega, Or.inr rfl, rfl, rfl⟩
  case round =>
    obtain ⟨k, hk, hkn, rfl, rfl⟩ := hrel
    by_cases hlt : (k : Int) < n
    · match k, hk with
      | 0, _ =>
        have hlt' : (0 : Int) < n := by omega
        have e0 : Bo.delE ((0 : Nat) : Int) = 1 := rfl
        rw [e0]
        go_wp2
        go_round
        case rel => exact ⟨1, by omega, by omega, by go_num, rfl⟩
        case measure => simp [intOf]
      | 1, _ =>
        have hlt' : (1 : Int) < n := by omega
        have e0 : Bo.delE ((1 : Nat) : Int) = 2 := rfl
        rw [e0]
        go_wp2
        go_round
        case rel => exact ⟨2, by omega, by omega, by go_num, rfl⟩
        case measure => simp [intOf]
      | 2, _ =>
        have hlt' : (2 : Int) < n := by omega
        have e0 : Bo.delE ((2 : Nat) : Int) = 4 := rfl
        have HE : Hid (Bo.delE n = 8) := Bo.del_cap (by omega)
        rw [e0]
        go_wp2
        go_ret
        exact ⟨by rw [HE.out]; rfl, rfl⟩
    · have HE : Hid (Bo.delE n = Bo.delE k) := by
        show _ = _
        unfold Bo.delE
        repeat' split
        all_goals omega
      generalize Bo.delE (k : Int) = d at *
      go_wp2
      go_ret
      exact ⟨by rw [HE.out]; rfl, rfl⟩

theorem i64_id (n : Int) (h0 : -9223372036854775808 ≤ n) (h1 : n ≤ 9223372036854775807) : IntKind.i64.wrap n = n := by rw [IntKind.wrap_i64]; omega

set_option maxHeartbeats 1000000 in
set_option maxRecDepth 100000 in
theorem next_any (now n : Int) (w : World) :
    Calls Try.prog 89 #[.int .i64 now, .int .i64 n] w fun e w' => e = .returned (.tuple #[.int .i64 (Bo.nextE now n), .int .i64 (Bo.nextF now)]) ∧ w' = w := by
  have HD : Hid (Calls Try.prog 99 #[.int .i64 n] w fun e w' => e = .returned (.int .i64 (Bo.delE n)) ∧ w' = w) := delay_any n w
  have hd := Bo.del_range n
  by_cases hb : Bo.nextB now = true
  · have E1 : Hid (Bo.nextE now n = now + Bo.delE n) := by show _ = _; unfold Bo.nextE; rw [if_pos hb]
    have E2 : Hid (Bo.nextF now = 0) := by show _ = _; unfold Bo.nextF; rw [if_pos hb]
    simp only [Bo.nextB, Bool.and_eq_true, decide_eq_true_eq] at hb
    obtain ⟨h0, h1⟩ := hb
    generalize Bo.delE n = d at *
    go_enter Try.func89, Try.ntmps89
    go_wp2_with fail
    refine HD.out.mono ?_
    rintro e w1 ⟨rfl, hww⟩; obtain rfl := hww.symm
    go_wp2
    go_ret2
    exact ⟨by rw [E1.out, E2.out]; rfl, rfl⟩
  · have E1 : Hid (Bo.nextE now n = 0) := by show _ = _; unfold Bo.nextE; rw [if_neg hb]
    have E2 : Hid (Bo.nextF now = 110) := by show _ = _; unfold Bo.nextF; rw [if_neg hb]
    simp only [Bo.nextB, Bool.and_eq_true, decide_eq_true_eq] at hb
    by_cases h0 : now < 0
    · go_enter Try.func89, Try.ntmps89
      go_wp2
      go_ret2
      exact ⟨by rw [E1.out, E2.out]; rfl, rfl⟩
    · have h1 : 1000000000 < now := by omega
      go_enter Try.func89, Try.ntmps89
      go_wp2
      go_ret2
      exact ⟨by rw [E1.out, E2.out]; rfl, rfl⟩

end Go.Proofs.Ythfbpilfdfploaa
namespace Go.Proofs.Ythfbpilfdfploaa
open Go.RowKit

theorem number_any (x y : Int) (w : World) : Calls Try.prog 64 #[.int .i64 x, .int .i64 y] w fun e w' => e = .returned (.int .i64 (Idn.cmpI x y)) ∧ w' = w := by
  by_cases h : x < y
  · have HE : Hid (Idn.cmpI x y = -1) := by show _ = _; simp [Idn.cmpI, h]
    go_enter Try.func64, Try.ntmps64
    go_wp2
    go_ret
    exact ⟨by rw [HE.out]; rfl, rfl⟩
  · by_cases h2 : y < x
    · have HE : Hid (Idn.cmpI x y = 1) := by show _ = _; simp [Idn.cmpI, h, h2]
      go_enter Try.func64, Try.ntmps64
      go_wp2
      go_ret
      exact ⟨by rw [HE.out]; rfl, rfl⟩
    · have HE : Hid (Idn.cmpI x y = 0) := by show _ = _; simp [Idn.cmpI, h, h2]
      go_enter Try.func64, Try.ntmps64
      go_wp2
      go_ret
      exact ⟨by rw [HE.out]; rfl, rfl⟩

set_option maxHeartbeats 2000000 in
set_option maxRecDepth 100000 in
theorem refCmp_any (r n : Int) (L : List (Int × Int)) (ad : Option Addr) (cap : Nat) (r2 n2 : Int) (M : List (Int × Int)) (ad2 : Option Addr) (cap2 : Nat) (w : World) (hL : HopsAt w ad L) (hM : HopsAt w ad2 M) (hn : L.length ≤ 9223372036854775807) (hm : M.length ≤ 9223372036854775807) :
    Calls Try.prog 41 #[.agg #[.int .i64 r, .int .i64 n, .slice ad L.length cap], .agg #[.int .i64 r2, .int .i64 n2, .slice ad2 M.length cap2]] w fun e w' => e = .returned (.int .i64 (Idn.cmpE r n L r2 n2 M)) ∧ Gr w w' := by
  have HC : Hid (∀ (a b : Int) (w' : World), Calls Try.prog 64 #[.int .i64 a, .int .i64 b] w' fun e w2 => e = .returned (.int .i64 (Idn.cmpI a b)) ∧ w2 = w') := number_any
  have HL : Hid (HopsAt w ad L) := hL
  have HM : Hid (HopsAt w ad2 M) := hM
  clear hL hM
  by_cases h1 : r = r2
  · subst h1
    have hr : (r != r) = false := by simp
    by_cases h2 : n = n2
    · subst h2
      have hr2 : (n != n) = false := by simp
      have HE : Hid (Idn.cmpE r n L r n M = Idn.cmpH L M) := by
        show _ = _
        rw [Idn.cmpE, (Idn.cmpI_zero r r).2 rfl, (Idn.cmpI_zero n n).2 rfl]; rfl
      go_enter Try.func41, Try.ntmps41
      go_wp2
      go_loopw [5] (fun i wr => ∃ k : Nat, k ≤ L.length ∧ k ≤ M.length ∧ i = .int .i64 k ∧ Idn.cmpH L M = Idn.cmpH (L.drop k) (M.drop k) ∧ Gr w wr ∧ w.heap.size + 1 < wr.heap.size ∧ wr.cell? ⟨w.heap.size, 2, none⟩ = some (.slice ad L.length cap) ∧ wr.cell? ⟨w.heap.size + 1, 2, none⟩ = some (.slice ad2 M.length cap2)) (fun i _ => L.length - (intOf i).toNat)
      case atStart => exact ⟨0, by omega, by omega, rfl, rfl, (by repeat(first|exact Gr.r _|refine Gr.a ?_|refine Gr.d ?_|refine Gr.t ?_ (by assumption))), by simp, by simp, by simp⟩
      case round =>
        obtain ⟨k, hk, hk2, rfl, hp, hg, hsz, q1, q2⟩ := hrel
        have HP : Hid (Idn.cmpH L M = Idn.cmpH (L.drop k) (M.drop k)) := hp
        have hsz0 : w.heap.size < wr.heap.size := by omega
        clear hp
        by_cases hlt : k < L.length
        · by_cases hlt2 : k < M.length
          · obtain ⟨b, off, rfl, hbl, hc, hd⟩ := HL.out k hlt
            obtain ⟨b2, off2, rfl, hbl2, hc2, hd2⟩ := HM.out k hlt2
            have hc' := hg.keep hc
            have hd' := hg.keep hd
            have hc2' := hg.keep hc2
            have hd2' := hg.keep hd2
            have HP2 : Hid (Idn.cmpH L M = Idn.orI (Idn.cmpP L[k] M[k]) (Idn.cmpH (L.drop (k + 1)) (M.drop (k + 1)))) := by
              show _ = _
              rw [HP.out, List.drop_eq_getElem_cons hlt, List.drop_eq_getElem_cons hlt2]; rfl
            obtain ⟨⟨x1, x2⟩, hx⟩ : ∃ h, L[k] = h := ⟨_, rfl⟩
            obtain ⟨⟨y1, y2⟩, hy⟩ : ∃ h, M[k] = h := ⟨_, rfl⟩
            rw [hx] at hc' hd' HP2
            rw [hy] at hc2' hd2' HP2
            have hki : (k : Int) < L.length := by omega
            have hki2 : (k : Int) < M.length := by omega
            clear hc2 hd2 hx hy HP HL HM hc hd
            have hbw : b < wr.heap.size := Nat.lt_of_lt_of_le hbl hg.size
            have hbw2 : b2 < wr.heap.size := Nat.lt_of_lt_of_le hbl2 hg.size
            by_cases e1 : x1 = y1
            · subst e1
              have he1 : (x1 != x1) = false := by simp
              by_cases e2 : x2 = y2
              · subst e2
                have he2 : (x2 != x2) = false := by simp
                have HF : Hid (Idn.cmpH L M = Idn.cmpH (L.drop (k + 1)) (M.drop (k + 1))) := by show _ = _; rw [HP2.out, (Idn.cmpP_zero _ _).2 rfl]; rfl
                clear HP2
                go_wp2
                go_region
                all_goals go_wp2
                all_goals
                  go_roundw
                  case rel => exact ⟨k + 1, by omega, by omega, by go_num, HF.out, (by repeat(first|exact Gr.r _|refine Gr.a ?_|refine Gr.d ?_|refine Gr.t ?_ (by assumption))), by simp; omega, by simp [World.cell?_alloc_some, q1], by simp [World.cell?_alloc_some, q2]⟩
                  case measure => simp [intOf]; omega
              · have he2 : (x2 != y2) = true := by rw [bne_iff_ne]; exact e2
                have HF : Hid (Idn.cmpH L M = Idn.cmpI x2 y2) := by
                  show _ = _
                  have : Idn.cmpI x2 y2 ≠ 0 := fun h => e2 ((Idn.cmpI_zero _ _).1 h)
                  rw [HP2.out, Idn.cmpP, (Idn.cmpI_zero x1 x1).2 rfl, Idn.orI_self_zero, Idn.orI, if_neg this]
                clear HP2
                go_wp2
                go_region
                all_goals
                  go_wp2_with fail
                  refine (HC.out _ _ _).mono ?_
                  rintro e1 w1 ⟨rfl, hw1⟩; obtain rfl := hw1.symm
                  go_wp2
                  go_ret
                  exact ⟨by rw [HE.out, HF.out]; rfl, (by repeat(first|exact Gr.r _|refine Gr.a ?_|refine Gr.d ?_|refine Gr.t ?_ (by assumption)))⟩
            · have he1 : (x1 != y1) = true := by rw [bne_iff_ne]; exact e1
              have HF : Hid (Idn.cmpH L M = Idn.cmpI x1 y1) := by
                show _ = _
                have : Idn.cmpI x1 y1 ≠ 0 := fun h => e1 ((Idn.cmpI_zero _ _).1 h)
                have h3 : Idn.cmpP (x1, x2) (y1, y2) = Idn.cmpI x1 y1 := by rw [Idn.cmpP, Idn.orI, if_neg this]
                rw [HP2.out, h3, Idn.orI, if_neg this]
              clear HP2
              go_wp2
              go_region
              all_goals
                go_wp2_with fail
                refine (HC.out _ _ _).mono ?_
                rintro e1 w1 ⟨rfl, hw1⟩; obtain rfl := hw1.symm
                go_wp2
                go_ret
                exact ⟨by rw [HE.out, HF.out]; rfl, (by repeat(first|exact Gr.r _|refine Gr.a ?_|refine Gr.d ?_|refine Gr.t ?_ (by assumption)))⟩
          · have HF : Hid (Idn.cmpH L M = 1) := by
              show _ = _
              rw [HP.out, List.drop_eq_getElem_cons hlt, dropN M k (by omega)]; rfl
            have HF2 : Hid (Idn.cmpI L.length M.length = 1) := by show _ = _; unfold Idn.cmpI; rw [if_neg (by omega), if_pos (by omega)]
            go_wp2_with fail
            refine (HC.out _ _ _).mono ?_
            rintro e1 w1 ⟨rfl, hw1⟩; obtain rfl := hw1.symm
            go_wp2
            go_ret
            exact ⟨by rw [HE.out, HF.out, ← HF2.out]; rfl, (by repeat(first|exact Gr.r _|refine Gr.a ?_|refine Gr.d ?_|refine Gr.t ?_ (by assumption)))⟩
        · have HF : Hid (Idn.cmpH L M = Idn.cmpI L.length M.length) := by
            show _ = _
            rw [HP.out, dropN L k (by omega)]
            by_cases hlt2 : k < M.length
            · rw [List.drop_eq_getElem_cons hlt2]; unfold Idn.cmpI; rw [if_pos (by omega)]; rfl
            · rw [dropN M k (by omega)]; unfold Idn.cmpI; rw [if_neg (by omega), if_neg (by omega)]; rfl
          go_wp2_with fail
          refine (HC.out _ _ _).mono ?_
          rintro e1 w1 ⟨rfl, hw1⟩; obtain rfl := hw1.symm
          go_wp2
          go_ret
          exact ⟨by rw [HE.out, HF.out]; rfl, (by repeat(first|exact Gr.r _|refine Gr.a ?_|refine Gr.d ?_|refine Gr.t ?_ (by assumption)))⟩
    · have hne : (n != n2) = true := by rw [bne_iff_ne]; exact h2
      have HE : Hid (Idn.cmpE r n L r n2 M = Idn.cmpI n n2) := by
        show _ = _
        have : Idn.cmpI n n2 ≠ 0 := fun h => h2 ((Idn.cmpI_zero n n2).1 h)
        rw [Idn.cmpE, (Idn.cmpI_zero r r).2 rfl, Idn.orI_self_zero, Idn.orI, if_neg this]
      clear HL HM
      go_enter Try.func41, Try.ntmps41
      go_wp2_with fail
      refine (HC.out _ _ _).mono ?_
      rintro e1 w1 ⟨rfl, hw1⟩; obtain rfl := hw1.symm
      go_wp2
      go_ret
      exact ⟨by rw [HE.out]; rfl, (by repeat(first|exact Gr.r _|refine Gr.a ?_|refine Gr.d ?_|refine Gr.t ?_ (by assumption)))⟩
  · have hne : (r != r2) = true := by rw [bne_iff_ne]; exact h1
    have HE : Hid (Idn.cmpE r n L r2 n2 M = Idn.cmpI r r2) := by
      show _ = _
      have : Idn.cmpI r r2 ≠ 0 := fun h => h1 ((Idn.cmpI_zero r r2).1 h)
      rw [Idn.cmpE, Idn.orI, if_neg this]
    clear HL HM
    go_enter Try.func41, Try.ntmps41
    go_wp2_with fail
    refine (HC.out _ _ _).mono ?_
    rintro e1 w1 ⟨rfl, hw1⟩; obtain rfl := hw1.symm
    go_wp2
    go_ret
    exact ⟨by rw [HE.out]; rfl, (by repeat(first|exact Gr.r _|refine Gr.a ?_|refine Gr.d ?_|refine Gr.t ?_ (by assumption)))⟩

def sameB (r n : Int) (L : List (Int × Int)) (r2 n2 : Int) (M : List (Int × Int)) : Bool := decide (r = r2 ∧ n = n2 ∧ L = M)

set_option maxHeartbeats 1000000 in
set_option maxRecDepth 100000 in
theorem same_any (r n : Int) (L : List (Int × Int)) (ad : Option Addr) (cap : Nat) (r2 n2 : Int) (M : List (Int × Int)) (ad2 : Option Addr) (cap2 : Nat) (w : World) (hL : HopsAt w ad L) (hM : HopsAt w ad2 M) (hn : L.length ≤ 9223372036854775807) (hm : M.length ≤ 9223372036854775807) :
    Calls Try.prog 26 #[.agg #[.int .i64 r, .int .i64 n, .slice ad L.length cap], .agg #[.int .i64 r2, .int .i64 n2, .slice ad2 M.length cap2]] w fun e w' => e = .returned (.bool (sameB r n L r2 n2 M)) ∧ Gr w w' := by
  have HC : Hid (∀ w', Gr w w' → Calls Try.prog 41 #[.agg #[.int .i64 r, .int .i64 n, .slice ad L.length cap], .agg #[.int .i64 r2, .int .i64 n2, .slice ad2 M.length cap2]] w' fun e w2 => e = .returned (.int .i64 (Idn.cmpE r n L r2 n2 M)) ∧ Gr w' w2) := fun w' g => refCmp_any r n L ad cap r2 n2 M ad2 cap2 w' (hL.gr g) (hM.gr g) hn hm
  have hz := Idn.cmpE_zero r n L r2 n2 M
  have HS : Hid (sameB r n L r2 n2 M = (Idn.cmpE r n L r2 n2 M == 0)) := by
    show _ = _
    rw [sameB, Bool.eq_iff_iff, decide_eq_true_iff, beq_iff_eq, hz]
  generalize Idn.cmpE r n L r2 n2 M = c at *
  clear hL hM hz
  go_enter Try.func26, Try.ntmps26
  go_wp2_with fail
  refine (HC.out _ (by repeat(first|exact Gr.r _|refine Gr.a ?_|refine Gr.d ?_|refine Gr.t ?_ (by assumption)))).mono ?_
  rintro e1 w1 ⟨rfl, hg1⟩
  go_wp2
  go_ret
  exact ⟨by rw [HS.out]; rfl, (by repeat(first|exact Gr.r _|refine Gr.a ?_|refine Gr.d ?_|refine Gr.t ?_ (by assumption)))⟩
end Go.Proofs.Ythfbpilfdfploaa
namespace Go.Proofs.Ythfbpilfdfploaa
open Go.RowKit

variable {Z : Nat → Prop}
set_option maxHeartbeats 2000000 in
set_option maxRecDepth 100000 in
theorem rSameN2_any (m m2 : Mn) (w : World) (h : MnAt Z w m) (h2 : MnAt Z w m2) :
    Calls Try.prog 8 #[m.v, m2.v] w fun e w' => e = .returned (.bool (decide (pk m.x = pk m2.x))) ∧ Gr w w' := by
  obtain ⟨⟨k, r, n, L, d, y⟩, ad, cap⟩ := m
  obtain ⟨⟨k2, r2, n2, M, d2, y2⟩, ad2, cap2⟩ := m2
  have HC : Hid (∀ w', Gr w w' → Calls Try.prog 26 #[.agg #[.int .i64 r, .int .i64 n, .slice ad L.length cap], .agg #[.int .i64 r2, .int .i64 n2, .slice ad2 M.length cap2]] w' fun e w2 => e = .returned (.bool (sameB r n L r2 n2 M)) ∧ Gr w' w2) := fun w' g => same_any r n L ad cap r2 n2 M ad2 cap2 w' (h.hp.gr g) (h2.hp.gr g) h.hl h2.hl
  have HE := Lib.hid (same_parts k r n L d y k2 r2 n2 M d2 y2 (sameB r n L r2 n2 M) rfl)
  generalize sameB r n L r2 n2 M = c at *
  clear h h2
  dsimp only [Mn.v] at *
  generalize L.length = ll at *
  generalize M.length = ml at *
  generalize decide (pk ⟨k, r, n, L, d, y⟩ = pk ⟨k2, r2, n2, M, d2, y2⟩) = R at *
  cases hk : (k == k2) with
  | false =>
    rw [hk] at HE
    go_enter Try.func8, Try.ntmps8
    go_wp2
    go_ret
    exact ⟨by rw [HE.out]; rfl, (by repeat(first|exact Gr.r _|refine Gr.a ?_|refine Gr.d ?_|refine Gr.t ?_ (by assumption)))⟩
  | true =>
    rw [hk] at HE
    go_enter Try.func8, Try.ntmps8
    go_wp2_with fail
    refine (HC.out _ ?_).mono ?_
    · exact (by repeat(first|exact Gr.r _|refine Gr.a ?_|refine Gr.d ?_|refine Gr.t ?_ (by assumption)))
    rintro e1 w1 ⟨rfl, hg1⟩
    have B1 := ((Cs.new w [.int .i64 k, .int .i64 r, .int .i64 n, .slice ad ll cap, .string d, .int .i64 y] 26 _ rfl).alloc (o := .cells #[.int .i64 k2, .int .i64 r2, .int .i64 n2, .slice ad2 ml cap2, .string d2, .int .i64 y2] 26)).gr hg1
    have D1 := (Cs.new (w.alloc (.cells #[.int .i64 k, .int .i64 r, .int .i64 n, .slice ad ll cap, .string d, .int .i64 y] 26)) [.int .i64 k2, .int .i64 r2, .int .i64 n2, .slice ad2 ml cap2, .string d2, .int .i64 y2] 26 (w.heap.size + 1) (by simp)).gr hg1
    have c4 := B1.at_ 4 _ rfl
    have c5 := B1.at_ 5 _ rfl
    have clt := B1.lt
    have d4 := D1.at_ 4 _ rfl
    have d5 := D1.at_ 5 _ rfl
    have dlt := D1.lt
    cases c with
    | false =>
      go_wp2
      go_ret
      exact ⟨by rw [HE.out]; rfl, (by repeat(first|exact Gr.r _|refine Gr.a ?_|refine Gr.d ?_|refine Gr.t ?_ (by assumption)))⟩
    | true =>
      cases hd : (d.toList == d2.toList) with
      | false =>
        rw [hd] at HE
        go_wp2
        go_ret
        exact ⟨by rw [HE.out]; rfl, (by repeat(first|exact Gr.r _|refine Gr.a ?_|refine Gr.d ?_|refine Gr.t ?_ (by assumption)))⟩
      | true =>
        rw [hd] at HE
        go_wp2
        go_ret
        exact ⟨by rw [HE.out]; rfl, (by repeat(first|exact Gr.r _|refine Gr.a ?_|refine Gr.d ?_|refine Gr.t ?_ (by assumption)))⟩

theorem hold15 {a b : World} (g : Gr a b) {v0 v1 v2 v3 v4 v5 u0 u1 u2 u3 u4 u5 : Value} {p0 p1 p2 p3 p4 p5 q0 q1 q2 q3 q4 q5 : Addr} (h0 : a.cell? p0 = some v0) (h1 : a.cell? p1 = some v1) (h2 : a.cell? p2 = some v2) (h3 : a.cell? p3 = some v3) (h4 : a.cell? p4 = some v4) (h5 : a.cell? p5 = some v5) (k0 : a.cell? q0 = some u0) (k1 : a.cell? q1 = some u1) (k2 : a.cell? q2 = some u2) (k3 : a.cell? q3 = some u3) (k4 : a.cell? q4 = some u4) (k5 : a.cell? q5 = some u5) :
    Gr a b ∧ b.cell? p0 = some v0 ∧ b.cell? p1 = some v1 ∧ b.cell? p2 = some v2 ∧ b.cell? p3 = some v3 ∧ b.cell? p4 = some v4 ∧ b.cell? p5 = some v5 ∧ b.cell? q0 = some u0 ∧ b.cell? q1 = some u1 ∧ b.cell? q2 = some u2 ∧ b.cell? q3 = some u3 ∧ b.cell? q4 = some u4 ∧ b.cell? q5 = some u5 :=
  ⟨g, g.keep h0, g.keep h1, g.keep h2, g.keep h3, g.keep h4, g.keep h5, g.keep k0, g.keep k1, g.keep k2, g.keep k3, g.keep k4, g.keep k5⟩
end Go.Proofs.Ythfbpilfdfploaa
namespace Go.Proofs.Ythfbpilfdfploaa
open Go.RowKit

def orgs (L : List (Int × Int)) : List Int := L.map (·.2)
theorem orgs_get (L : List (Int × Int)) (i j : Nat) (hj : j < i) (hi : i ≤ L.length) (o : Int) : ((orgs (L.take i)).drop j).contains o = (o == (L[j]'(by omega)).2 || ((orgs (L.take i)).drop (j + 1)).contains o) := by
  have hl : j < (orgs (L.take i)).length := by simp [orgs]; omega
  rw [List.drop_eq_getElem_cons hl]
  have e : (orgs (L.take i))[j] = (L[j]'(by omega)).2 := by simp [orgs]
  rw [e]; rfl

end Go.Proofs.Ythfbpilfdfploaa
