
/- The document's Take of a fresh number. -/
import Derived.Test.YtdgjgpcfpkpnlaaWnR
namespace Go.Proofs.Ytdgjgpcfpkpnlaa
open Go.RowKit
open Wn (Wd)

def cellI : Option Value → Int
  | some (.int _ n) => n
  | _ => 0
theorem Bx2.heap {w w' : World} {g : Nat} {a b : Value} (h : Bx2 w g a b) (e : w'.heap[g]? = w.heap[g]?) (hs : w.heap.size ≤ w'.heap.size) : Bx2 w' g a b :=
  ⟨(World.cell?_of_block (a := ⟨g, 0, none⟩) e).trans h.c0, (World.cell?_of_block (a := ⟨g, 1, none⟩) e).trans h.c1, (World.frozen?_of_block (a := ⟨g, 0, none⟩) e).trans h.f0, (World.frozen?_of_block (a := ⟨g, 1, none⟩) e).trans h.f1, Nat.lt_of_lt_of_le h.lt hs⟩
theorem Bx2.grown {w w' : World} {g : Nat} {a b : Value} {r : Option Nat} (h : Bx2 w g a b) (k : w.grownBy w' r) (hr : ∀ x, r = some x → x ≠ g) : Bx2 w' g a b :=
  h.heap (k.block g h.lt (fun e => hr g e.symm rfl)) k.size
theorem Bx2.set1 {w : World} {g : Nat} {a b : Value} (h : Bx2 w g a b) (x : Value) : Bx2 (w.setCell ⟨g, 1, none⟩ x) g a x := by
  obtain ⟨h0, h1, f0, f1, hl⟩ := h
  exact ⟨by simp [go_sem, *], by simp [go_sem, *], by simp [go_sem, *], by simp [go_sem, *], by simpa using hl⟩
theorem row_set {w : World} {base : Nat} {e : TypeId} {size n : Nat} {v : Value} {xs : List Value} (h : w.ownsRow base e size v n xs) (p : Addr) (u : Value) (hp : p.block < base) : (w.setCell p u).ownsRow base e size v n xs :=
  row_keep h (fun g hg => Below.heap_setCell w p u g (fun e => by have := (h.lt g hg).1; omega))
theorem filt_in (f : Int → Bool) (a : Int) : [a].filter f = if f a = true then [a] else [] := by cases h : f a <;> simp [h]
/- the loop goes on -/
theorem up_go (h : Int → Bool) (k : Nat) (hk : k ≤ 16) (l : Int) (c : h (l + 1) = true) : Wn.up h (17 - k) l = Wn.up h (17 - (k + 1)) (l + 1) := by
  rw [show 17 - k = (17 - (k + 1)) + 1 by omega]
  show (if h (l + 1) = true then _ else _) = _
  rw [if_pos c]
theorem up_stop (h : Int → Bool) (k : Nat) (hk : k ≤ 16) (l : Int) (c : h (l + 1) = false) : Wn.up h (17 - k) l = l := by
  rw [show 17 - k = (17 - (k + 1)) + 1 by omega]
  show (if h (l + 1) = true then _ else _) = _
  rw [if_neg (by rw [c]; simp)]
/- what comes behind the first loop -/
set_option maxHeartbeats 16000000 in
set_option maxRecDepth 100000 in
theorem rtake_new (W : Wd) (q : Int) (ad : Option Addr) (cap : Nat) (w : World) (h : WdAt w ad cap W) (hm : Wn.may W = true) (h1 : 1 ≤ q) (h2 : q ≤ 1000000000) (hf : ¬ (W.low + 16 < q)) (hh : Wn.has W q = false) :
    Calls Try.prog 8 #[wdV W.low ad W.seen.length cap, .int .i64 q] w fun e w' => RkR w w' e (Wn.more W q, true, 0) := by
  have HM : Hid (∀ w', Gr w w' → Calls Try.prog 10 #[wdV W.low ad W.seen.length cap] w' fun e w2 => e = .returned (.int .i64 (mayE W)) ∧ Gr w' w2) := fun w' g => rmay_any W ad cap w' (h.gr g)
  have HH : Hid (∀ w' n, Gr w w' → Calls Try.prog 20 #[wdV W.low ad W.seen.length cap, .int .i64 n] w' fun e w2 => e = .returned (.bool (Wn.has W n)) ∧ Gr w' w2) := fun w' n g => rhas_any W n ad cap w' (h.gr g)
  have HH0 := Lib.hid (fun w' g => HH.out w' q g)
  rw [hh] at HH0
  have hlo := ((Wn.may_iff W).1 hm).1
  have e0 : mayE W = 0 := by unfold mayE; rw [if_pos hm]
  rw [e0] at HM
  have HU : Hid (∀ n, (Wn.has W n || decide (n = q)) = true → n ≤ W.low + 16) := fun n hn => by
    rcases Bool.or_eq_true _ _ ▸ hn with hx | hx
    · exact (Wn.has_le hm hx).2
    · have := of_decide_eq_true hx; omega
  have HMo : Hid (Wn.more W q = ⟨Wn.up (fun n => Wn.has W n || decide (n = q)) 17 W.low, (Wn.rng (Wn.up (fun n => Wn.has W n || decide (n = q)) 17 W.low + 1) (W.low + 16)).filter (fun n => Wn.has W n || decide (n = q))⟩) := rfl
  obtain ⟨i0, hi0, hz0, hz1, hz2⟩ := info_parts infoN
  clear h hm e0 hh
  generalize Wn.more W q = M at *
  obtain ⟨low, l⟩ := W
  simp only at *
  generalize l.length = n at *
  go_enter Try.func8, Try.ntmps8
  go_wp2_with fail
  refine (HM.out _ (by repeat (first | exact Gr.refl _ | refine Gr.alloc ?_ | refine Gr.drew ?_ | refine Gr.trans ?_ (by assumption)))).mono ?_
  rintro e w1 ⟨rfl, hg1⟩
  have G1 : Hid (Gr w w1) := (Gr.refl w).alloc.alloc.trans hg1
  have B1 := Lib.hid ((Bx2.new (w.alloc (.cells #[.int .i64 low, .slice ad n cap] 24)) (.int .i64 0) (.slice none 0 0) 24 (w.heap.size + 1) (by simp)).gr hg1)
  have A1 := Lib.hid (((Bx2.new w (.int .i64 low) (.slice ad n cap) 24 w.heap.size rfl).gr (Gr.refl _).alloc).gr hg1)
  obtain ⟨d0, d1, _, _, _⟩ := A1.out
  clear hg1 HM
  go_wp2_with fail
  refine (HH0.out _ G1.out).mono ?_
  rintro e w2 ⟨rfl, hg2⟩
  have G2 := Lib.hid (G1.out.trans hg2)
  have B2 := Lib.hid (B1.out.gr hg2)
  have A2 := Lib.hid (A1.out.gr hg2)
  obtain ⟨d0, d1, _, _, _⟩ := A2.out
  have hl2 := B2.out.lt
  clear hg2 HH0 B1 A1 G1
  go_wp2
  go_loopw [] (fun wr => ∃ k : Nat, k ≤ 16 ∧ Bx2 wr w2.heap.size (.int .i64 (low + k)) (.slice none 0 0) ∧ Gr w2 wr ∧ Wn.up (fun n => Wn.has ⟨low, l⟩ n || decide (n = q)) 17 low = Wn.up (fun n => Wn.has ⟨low, l⟩ n || decide (n = q)) (17 - k) (low + k)) (fun wr => (low + 17 - cellI (wr.cell? ⟨w2.heap.size, 0, none⟩)).toNat)
  case atStart => exact ⟨0, by omega, by simpa using Bx2.new w2 (.int .i64 low) (.slice none 0 0) 24 _ rfl, (Gr.refl _).alloc, by simp⟩
  case round =>
    obtain ⟨k, hk, hb, hg, hu⟩ := hrel
    have B := Lib.hid hb
    have G := Lib.hid hg
    have U := Lib.hid hu
    obtain ⟨c0, c1, f0, f1, hl3⟩ := hb
    obtain ⟨k0, k1, _, _, _⟩ := A2.out.gr hg
    have hmc : Hid (cellI (wr.cell? ⟨w2.heap.size, 0, none⟩) = low + k) := by show _ = _; rw [c0]; rfl
    have HH1 := Lib.hid (HH.out wr (low + k + 1) (G2.out.trans hg))
    clear hg hu
    have hkn : Hid (low + (k : Int) + 1 = low + ((k + 1 : Nat) : Int)) := by show _ = _; omega
    cases hx : Wn.has ⟨low, l⟩ (low + k + 1) with
    | true =>
      have hb16 := HU.out (low + k + 1) (by rw [hx]; rfl)
      have HN : Hid (Wn.up (fun n => Wn.has ⟨low, l⟩ n || decide (n = q)) 17 low = Wn.up (fun n => Wn.has ⟨low, l⟩ n || decide (n = q)) (17 - (k + 1)) (low + ((k + 1 : Nat) : Int))) := by
        show _ = _
        rw [U.out, up_go _ k hk _ (by simp only [hx]; rfl), hkn.out]
      rw [hx] at HH1
      clear hx d0 d1
      go_wp2_with fail
      refine HH1.out.mono ?_
      rintro e w3 ⟨rfl, hg3⟩
      have G3 := Lib.hid (G.out.trans hg3)
      have B3 := Lib.hid (B.out.gr hg3)
      obtain ⟨c0, c1, f0, f1, hl3⟩ := B3.out
      have HB3 := Lib.hid (B3.out.set0 (.int .i64 (low + k + 1)))
      rw [hkn.out] at HB3
      clear hg3 B
      go_wp2
      go_roundw
      case rel => exact ⟨k + 1, by omega, by rw [hkn.out]; exact HB3.out, G3.out.set _ (by simp) _, HN.out⟩
      case measure => rw [hmc.out]; simp [go_sem, *, cellI]; omega
    | false =>
      rw [hx] at HH1
      by_cases hq : low + k + 1 = q
      · have hb16 := HU.out (low + k + 1) (by rw [hx, decide_eq_true hq]; rfl)
        have HN : Hid (Wn.up (fun n => Wn.has ⟨low, l⟩ n || decide (n = q)) 17 low = Wn.up (fun n => Wn.has ⟨low, l⟩ n || decide (n = q)) (17 - (k + 1)) (low + ((k + 1 : Nat) : Int))) := by
          show _ = _
          rw [U.out, up_go _ k hk _ (by simp only [hx]; rw [decide_eq_true hq]; rfl), hkn.out]
        clear hx d0 d1
        have hqb : (low + (k : Int) + 1 == q) = true := by rw [beq_iff_eq]; exact hq
        clear hq
        go_wp2_with fail
        refine HH1.out.mono ?_
        rintro e w3 ⟨rfl, hg3⟩
        have G3 := Lib.hid (G.out.trans hg3)
        have B3 := Lib.hid (B.out.gr hg3)
        obtain ⟨c0, c1, f0, f1, hl3⟩ := B3.out
        have HB3 := Lib.hid (B3.out.set0 (.int .i64 (low + k + 1)))
        rw [hkn.out] at HB3
        clear hg3 B
        go_wp2
        go_roundw
        case rel => exact ⟨k + 1, by omega, by rw [hkn.out]; exact HB3.out, G3.out.set _ (by simp) _, HN.out⟩
        case measure => rw [hmc.out]; simp [go_sem, *, cellI]; omega
      · have HL : Hid (M = ⟨low + k, (Wn.rng (low + k + 1) (low + 16)).filter (fun n => Wn.has ⟨low, l⟩ n || decide (n = q))⟩) := by
          show _ = _
          rw [HMo.out, U.out, up_stop _ k hk _ (by simp only [hx]; rw [decide_eq_false hq]; rfl)]
        clear hx d0 d1 U HMo
        have hqb : (low + (k : Int) + 1 == q) = false := by rw [beq_eq_false_iff_ne]; exact hq
        clear hq
        go_wp2_with fail
        refine HH1.out.mono ?_
        rintro e w3 ⟨rfl, hg3⟩
        have G3 := Lib.hid (G.out.trans hg3)
        have B3 := Lib.hid (B.out.gr hg3)
        obtain ⟨c0, c1, f0, f1, hl3⟩ := B3.out
        clear hg3 B HH1 G
        generalize hX : low + (k : Int) = x at *
        have hx0 : low ≤ x ∧ x ≤ low + 16 := by omega
        clear hkn hmc
        go_wp2
        go_loopw [8] (fun t wr => ∃ (a : Int) (D : List Int) (v : Value), t = .int .i64 a ∧ x + 1 ≤ a ∧ a ≤ low + 17 ∧ D = (Wn.rng (x + 1) (a - 1)).filter (fun n => Wn.has ⟨low, l⟩ n || decide (n = q)) ∧ Bx2 wr w2.heap.size (.int .i64 x) v ∧ wr.ownsRow (w2.heap.size + 1) 3 1 v D.length (intV D) ∧ Gr w2 wr) (fun t _ => (low + 17 - intOf t).toNat)
        case atStart => exact ⟨x + 1, [], .slice none 0 0, rfl, by omega, by omega, by rw [Wn.rng_none (by omega)]; rfl, B3.out, World.ownsRow_nil _ _ _ _, G3.out⟩
        case round =>
          obtain ⟨a, D, v, rfl, ha0, ha1, heq, hb, hown, hg⟩ := hrel
          have HG := Lib.hid hg
          have HB := Lib.hid hb
          have HO := Lib.hid hown
          obtain ⟨c0, c1, f0, f1, hl4⟩ := hb
          obtain ⟨k0, k1, _, _, _⟩ := A2.out.gr hg
          by_cases hlt : a ≤ low + 16
          · have hDl : D.length ≤ 17 := by
              rw [heq]
              have h1 := List.length_filter_le (fun n => Wn.has ⟨low, l⟩ n || decide (n = q)) (Wn.rng (x + 1) (a - 1))
              have h2 := Wn.len_rng (x + 1) (a - 1)
              omega
            have HS := Lib.hid (show (Wn.rng (x + 1) (a + 1 - 1)).filter (fun n => Wn.has ⟨low, l⟩ n || decide (n = q)) = D ++ (if (Wn.has ⟨low, l⟩ a || decide (a = q)) = true then [a] else []) by
              rw [heq, show a + 1 - 1 = a by omega, Wn.rng_snoc (show x + 1 ≤ a by omega), List.filter_append, filt_in (fun n => Wn.has ⟨low, l⟩ n || decide (n = q)) a])
            have HH2 := Lib.hid (HH.out wr a (G2.out.trans hg))
            have hm1 : D.length + 1 ≤ maxLen := by unfold maxLen; omega
            obtain ⟨va, vc, rfl⟩ := own_slice hown
            have hs4 : w2.heap.size + 1 ≤ wr.heap.size := by omega
            clear heq hg hown
            by_cases hin : (Wn.has ⟨low, l⟩ a || decide (a = q)) = true
            · rw [if_pos hin] at HS
              have HE2 := Lib.hid (intV_snoc D a)
              have hsp : Wn.has ⟨low, l⟩ a = true ∨ (Wn.has ⟨low, l⟩ a = false ∧ (a == q) = true) := by
                cases hx : Wn.has ⟨low, l⟩ a with
                | true => exact Or.inl rfl
                | false => rw [hx, Bool.false_or] at hin; exact Or.inr ⟨rfl, by rw [beq_iff_eq]; exact of_decide_eq_true hin⟩
              clear hin
              have fin : ∀ w5 : World, Gr wr w5 → ∀ (v' : Value) (w6 : World), w6.ownsRow (w2.heap.size + 1) 3 1 v' (D.length + 1) (intV D ++ [.int .i64 a]) → (w5.alloc (.cells #[.int .i64 a] 3)).grownBy w6 (Value.slice va D.length vc).ownBlock →
                  Bx2 w6 w2.heap.size (.int .i64 x) (.slice va D.length vc) ∧ Bx2 (w6.setCell ⟨w2.heap.size, 1, none⟩ v') w2.heap.size (.int .i64 x) v' ∧ (w6.setCell ⟨w2.heap.size, 1, none⟩ v').ownsRow (w2.heap.size + 1) 3 1 v' (D ++ [a]).length (intV (D ++ [a])) ∧ Gr w2 (w6.setCell ⟨w2.heap.size, 1, none⟩ v') := fun w5 g5 v' w6 ho6 hgr6 => by
                have hlt6 : ∀ y, (Value.slice va D.length vc).ownBlock = some y → w2.heap.size + 1 ≤ y := fun y hy => (HO.out.lt y hy).1
                have hb6 := (HB.out.gr (g5.alloc)).grown hgr6 (fun y hy => by have := hlt6 y hy; omega)
                refine ⟨hb6, hb6.set1 v', ?_, ?_⟩
                · rw [HE2.out, List.length_append]; exact row_set ho6 _ _ (by show w2.heap.size < _; omega)
                · exact ((HG.out.trans g5).alloc.grown hgr6 (fun y hy => by have := hlt6 y hy; omega)).set _ (by simp) _
              have FIN := Lib.hid fin
              clear fin
              rcases hsp with hx | ⟨hx, hqe⟩
              · rw [hx] at HH2
                clear hx
                go_wp2_with fail
                refine HH2.out.mono ?_
                rintro e w5 ⟨rfl, hg5⟩
                have G5 := Lib.hid hg5
                obtain ⟨c0, c1, f0, f1, hl5⟩ := HB.out.gr hg5
                have hown := row_gr HO.out hg5
                have hs5 := hg5.size
                clear hg5
                go_wp2_with (first
                  | (at_builtin; refine wpList_append_own _ rfl _ _ 22 rfl (w2.heap.size + 1) 3 i0 (.int .i64 0) 1 8 Try.underlying22 hi0 hz0 hz1 hz2 rfl (by decide) _ _ _ rfl (hown.alloc _) ⟨w5.heap.size, 0, none⟩ 1 1 [.int .i64 a] rfl rfl (cell_one _ _ _) (by intro u hu; simp at hu; subst hu; rfl) hm1 (by omega) (by simp; omega) ?_)
                  | fail)
                intro v' w6 hown' hgrow _
                obtain ⟨va', vc', rfl⟩ := own_slice hown'
                obtain ⟨q1, q2, q3, q4⟩ := FIN.out w5 G5.out _ w6 hown' hgrow
                have Q2 := Lib.hid q2
                have Q3 := Lib.hid q3
                have Q4 := Lib.hid q4
                obtain ⟨c0, c1, f0, f1, hl6⟩ := q1
                clear hown' hgrow hown q2 q3 q4
                go_wp2
                go_roundw
                case rel => exact ⟨a + 1, D ++ [a], _, by go_num, by omega, by omega, HS.out.symm, Q2.out, Q3.out, Q4.out⟩
                case measure => simp [intOf]; omega
              · rw [hx] at HH2
                clear hx
                go_wp2_with fail
                refine HH2.out.mono ?_
                rintro e w5 ⟨rfl, hg5⟩
                have G5 := Lib.hid hg5
                obtain ⟨c0, c1, f0, f1, hl5⟩ := HB.out.gr hg5
                have hown := row_gr HO.out hg5
                have hs5 := hg5.size
                clear hg5
                go_wp2_with (first
                  | (at_builtin; refine wpList_append_own _ rfl _ _ 22 rfl (w2.heap.size + 1) 3 i0 (.int .i64 0) 1 8 Try.underlying22 hi0 hz0 hz1 hz2 rfl (by decide) _ _ _ rfl (hown.alloc _) ⟨w5.heap.size, 0, none⟩ 1 1 [.int .i64 a] rfl rfl (cell_one _ _ _) (by intro u hu; simp at hu; subst hu; rfl) hm1 (by omega) (by simp; omega) ?_)
                  | fail)
                intro v' w6 hown' hgrow _
                obtain ⟨va', vc', rfl⟩ := own_slice hown'
                obtain ⟨q1, q2, q3, q4⟩ := FIN.out w5 G5.out _ w6 hown' hgrow
                have Q2 := Lib.hid q2
                have Q3 := Lib.hid q3
                have Q4 := Lib.hid q4
                obtain ⟨c0, c1, f0, f1, hl6⟩ := q1
                clear hown' hgrow hown q2 q3 q4
                go_wp2
                go_roundw
                case rel => exact ⟨a + 1, D ++ [a], _, by go_num, by omega, by omega, HS.out.symm, Q2.out, Q3.out, Q4.out⟩
                case measure => simp [intOf]; omega
            · rw [if_neg hin, List.append_nil] at HS
              have hx : Wn.has ⟨low, l⟩ a = false := by
                cases hx : Wn.has ⟨low, l⟩ a with
                | true => exact absurd (by rw [hx]; rfl) hin
                | false => rfl
              have hqe : (a == q) = false := by
                rw [beq_eq_false_iff_ne]
                intro e
                exact hin (by rw [decide_eq_true e, Bool.or_true])
              rw [hx] at HH2
              clear hx hin
              go_wp2_with fail
              refine HH2.out.mono ?_
              rintro e w5 ⟨rfl, hg5⟩
              have G5 := Lib.hid (HG.out.trans hg5)
              have B5 := Lib.hid (HB.out.gr hg5)
              have O5 := Lib.hid (row_gr HO.out hg5)
              clear hg5
              go_wp2
              go_roundw
              case rel => exact ⟨a + 1, D, .slice va D.length vc, by go_num, by omega, by omega, HS.out.symm, B5.out, O5.out, G5.out⟩
              case measure => simp [intOf]; omega
          · have hax : a = low + 17 := by omega
            have hMl : M = ⟨x, D⟩ := by rw [HL.out, heq, hax, show low + 17 - 1 = low + 16 by omega]
            obtain ⟨ad2, cap2, rfl, hcp, hia, hno, hbk⟩ := own_intsN hown
            obtain ⟨b0, b1, s0, s1, bl⟩ := B2.out.gr hg
            have HI := Lib.hid hia
            have HK := Lib.hid hbk
            have hDl : D.length ≤ 9223372036854775807 := by
              rw [heq]
              have h1 := List.length_filter_le (fun n => Wn.has ⟨low, l⟩ n || decide (n = q)) (Wn.rng (x + 1) (a - 1))
              have h2 := Wn.len_rng (x + 1) (a - 1)
              omega
            have HN := Lib.hid hno
            have HM9 := Lib.hid hMl
            clear hMl
            clear hown hg heq hia hax hbk hno
            go_wp2
            exact bodyPost_ret (v := .tuple #[wdV x ad2 D.length cap2, .bool true, .int .i64 0]) (by simp [results, Try.results8, go_sem, *]) rfl
              (by rw [HM9.out]; exact ⟨ad2, cap2, rfl, ⟨(HI.out.set _ _ (fun p e => by have := (HK.out p e).1; simp; omega)).set _ _ (fun p e => by have := (HK.out p e).1; simp; omega), hcp, hDl, HN.out, by simp only; omega, by simp only; omega⟩, gr_set2 (G2.out.trans HG.out) _ (by omega) _ _⟩)
/- the document's Take, whatever it is given -/
theorem rtake_any (W : Wd) (q : Int) (ad : Option Addr) (cap : Nat) (w : World) (h : WdAt w ad cap W) :
    Calls Try.prog 8 #[wdV W.low ad W.seen.length cap, .int .i64 q] w fun e w' => RkR w w' e (Wn.take W q) := by
  unfold Wn.take
  by_cases c : Wn.may W = true ∧ 1 ≤ q ∧ q ≤ 1000000000
  · rw [if_pos c]
    by_cases f : W.low + 16 < q
    · rw [if_pos f]; exact rtake_far W q ad cap w h c.1 c.2.1 c.2.2 f
    · rw [if_neg f]
      by_cases t : Wn.has W q = true
      · rw [if_pos t]; exact rtake_had W q ad cap w h c.1 c.2.1 c.2.2 f t
      · rw [if_neg t]; exact rtake_new W q ad cap w h c.1 c.2.1 c.2.2 f (by simpa using t)
  · rw [if_neg c]; exact rtake_bad W q ad cap w h c
end Go.Proofs.Ytdgjgpcfpkpnlaa
