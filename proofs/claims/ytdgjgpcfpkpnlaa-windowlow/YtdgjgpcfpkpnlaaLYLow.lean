
/- For every row of numbers the law WindowLow answers true: Low is the greatest number up to which all were taken; what is above it, and taken, is what was seen. -/
import Derived.Test.YtdgjgpcfpkpnlaaWnK
import Derived.Test.YtdgjgpcfpkpnlaaWnW
import Derived.Test.YtdgjgpcfpkpnlaaRegH
import Derived.Test.YtdgjgpcfpkpnlaaOpenO
namespace Go.Proofs.Ytdgjgpcfpkpnlaa
open Go.ChangeShapes Go.WideShapes Go.ChangeAt Go.RowKit
open Wn (Wd)

set_option maxHeartbeats 8000000 in
set_option maxRecDepth 100000 in
theorem windowLow_walk (l : List Int) (ad : Option Addr) (cap : Nat) (w : World) (hL : IntsAt w ad l) (hn : l.length ≤ 9223372036854775807) :
    Calls Try.prog 5 #[.slice ad l.length cap] w fun e w' => e = .returned (.bool true) ∧ Gr w w' := by
  have HA : Hid (∀ w', Calls Try.prog 6 #[] w' fun e w2 => e = .returned (.bool true) ∧ Gr w' w2) := fun w' => awake_any w'
  by_cases hbig : 200 < l.length
  · clear hL
    generalize l.length = n at *
    have hb : (200 : Int) < (n : Int) := by omega
    go_enter Try.func5, Try.ntmps5
    go_wp2_with fail
    refine (HA.out _).mono ?_
    rintro e w1 ⟨rfl, hg1⟩
    go_wp2
    go_ret
    exact ⟨rfl, hg1⟩
  · have HL := Lib.hid hL
    clear hL hn
    have hb : ¬ ((200 : Int) < (l.length : Int)) := by omega
    go_enter Try.func5, Try.ntmps5
    go_wp2
    go_loopw [4, 5] (fun nv iv wr => ∃ (k : Nat) (n : Int) (V : Wd) (D : List Int) (a1 : Option Addr) (c1 : Nat), k ≤ l.length ∧ iv = .int .i64 (k : Int) ∧ nv = .int .i64 n ∧ 0 ≤ n ∧ n ≤ k ∧ Wn.OnM V D ∧ Wn.cnt V = n ∧ WbAt w wr w.heap.size a1 c1 V) (fun _ i _ => l.length - (intOf i).toNat)
    case atStart => exact ⟨0, 0, ⟨0, []⟩, [], none, 0, Nat.zero_le _, rfl, rfl, by omega, by omega, Wn.on_nil, rfl, ⟨Nat.le_refl _, Bx2.new _ _ _ _ _ rfl, wd_zero _, (fun a e => by cases e), (Gr.refl w).alloc⟩⟩
    case round =>
      obtain ⟨k, n, V, D, a1, c1, hk, rfl, rfl, hn0, hn1, hon, hcnt, hb1⟩ := hrel
      have HB := Lib.hid hb1
      have HON := Lib.hid hon
      have HCN := Lib.hid hcnt
      have HG := Lib.hid hb1.gr
      obtain ⟨d0, d1, _, _, dl⟩ := hb1.bx
      by_cases hlt : k < l.length
      · obtain ⟨b, off, rfl, hbl, hc⟩ := HL.out k hlt
        have hc := HG.out.keep hc
        have hi : (k : Int) < (l.length : Int) := by omega
        have HT0 := Lib.hid (fun w' (g : Gr wr w') => take_any V l[k] a1 c1 w' (HB.out.wd.gr g))
        have HST := Lib.hid (Wn.on_step hon l[k])
        clear hb1 hon hcnt hbl
        generalize l[k] = q at *
        generalize Wn.take V q = T at *
        obtain ⟨T, fr, er⟩ := T
        simp only at HST
        have HT : Hid (∀ w', Gr wr w' → Calls Try.prog 7 #[wdV V.low a1 V.seen.length c1, .int .i64 q] w' fun e w2 => ∃ a3 c3, e = .returned (.tuple #[wdV T.low a3 T.seen.length c3, .bool fr, .int .i64 er]) ∧ WdAt w2 a3 c3 T ∧ (∀ a, a3 = some a → w'.heap.size ≤ a.block ∧ a.block < w2.heap.size) ∧ Gr w' w2) := HT0
        clear HT0
        go_upto_region 8 with fail
        go_cut [6, 7, 8] from 18 to 39 (fun p f c wx => f = .bool fr ∧ c = .int .i64 er ∧ AlI wr wx p T)
        case first =>
          go_region_held3 (fun w' => Gr wr w' ∧ w'.cell? ⟨w.heap.size, 0, none⟩ = some (.int .i64 V.low) ∧ w'.cell? ⟨w.heap.size, 1, none⟩ = some (.slice a1 V.seen.length c1) ∧ w'.cell? ⟨b, off + k, none⟩ = some (.int .i64 q))
            ((exact ⟨(by (repeat' (first | with_reducible exact Gr.refl _ | with_reducible refine Gr.set ?_ _ ?_ _ | with_reducible refine Gr.alloc ?_ | with_reducible refine Gr.drew ?_ | with_reducible refine Gr.trans ?_ (by assumption))) <;> (first | (simp; done) | (simp; omega) | omega)), Gr.keep (by (repeat' (first | with_reducible exact Gr.refl _ | with_reducible refine Gr.set ?_ _ ?_ _ | with_reducible refine Gr.alloc ?_ | with_reducible refine Gr.drew ?_ | with_reducible refine Gr.trans ?_ (by assumption))) <;> (first | (simp; done) | (simp; omega) | omega)) d0, Gr.keep (by (repeat' (first | with_reducible exact Gr.refl _ | with_reducible refine Gr.set ?_ _ ?_ _ | with_reducible refine Gr.alloc ?_ | with_reducible refine Gr.drew ?_ | with_reducible refine Gr.trans ?_ (by assumption))) <;> (first | (simp; done) | (simp; omega) | omega)) d1, Gr.keep (by (repeat' (first | with_reducible exact Gr.refl _ | with_reducible refine Gr.set ?_ _ ?_ _ | with_reducible refine Gr.alloc ?_ | with_reducible refine Gr.drew ?_ | with_reducible refine Gr.trans ?_ (by assumption))) <;> (first | (simp; done) | (simp; omega) | omega)) hc⟩))
            ((first
              | (go_at_call 7; refine (HT.out _ (by (repeat' (first | with_reducible exact Gr.refl _ | with_reducible refine Gr.set ?_ _ ?_ _ | with_reducible refine Gr.alloc ?_ | with_reducible refine Gr.drew ?_ | with_reducible refine Gr.trans ?_ (by assumption))) <;> (first | (simp; done) | (simp; omega) | omega))).mono ?_; rintro e wn ⟨a3, c3, rfl, hw3, hn3, hgn⟩; have hbz := ((Bx2.new wr (.int .i64 0) (.slice none 0 0) 24 _ rfl).gr (Gr.refl _).drew).gr hgn; obtain ⟨z0, z1, zf0, zf1, z6⟩ := hbz)
              | (go_at_call 7; refine (HT.out _ (by (repeat' (first | with_reducible exact Gr.refl _ | with_reducible refine Gr.set ?_ _ ?_ _ | with_reducible refine Gr.alloc ?_ | with_reducible refine Gr.drew ?_ | with_reducible refine Gr.trans ?_ (by assumption))) <;> (first | (simp; done) | (simp; omega) | omega))).mono ?_; rintro e wn ⟨a3, c3, rfl, hw3, hn3, hgn⟩)))
          · go_wp2_with fail
            go_meet
            exact ⟨rfl, rfl, ali_last ((Gr.refl wr).drew.trans hgn) hw3 hn3 _⟩
          · go_wp2_with fail
            go_meet
            exact ⟨rfl, rfl, ali_first (Nat.le_refl _) ((Gr.refl wr).alloc.drew.trans hgn) ⟨z0, z1, zf0, zf1, z6⟩ hw3 (fun a e => by have := hn3 a e; simp at this; omega)⟩
        case rest =>
          obtain ⟨rfl, rfl, g, a3, c3, rfl, hb2⟩ := hcut
          have HB2 := Lib.hid hb2
          have HB1 := Lib.hid (HB.out.up hb2.gr)
          obtain ⟨x0, x1, _, _, xl⟩ := hb2.bx
          obtain ⟨y0, y1, yf0, yf1, yl⟩ := HB1.out.bx
          have hne : ∀ a, a3 = some a → a.block ≠ w.heap.size ∧ w.heap.size ≤ a.block ∧ a.block < wc.heap.size := fun a e => by have := hb2.ne a e; omega
          have HNE := Lib.hid hne
          clear hb2 hne d0 d1 hc HT HB
          rcases HST.out with ⟨h1, h2, _⟩ | ⟨h1, h2, _, h3⟩ | ⟨h1, h2, _, hlow, hon2, hcnt2⟩
          · subst h2
            have heb : (er == 0) = false := by rw [beq_eq_false_iff_ne]; exact h1
            clear h1
            go_wp2
            go_roundw
            case rel => exact ⟨k + 1, n, V, D, a1, c1, by omega, by go_num, rfl, hn0, by omega, HON.out, HCN.out, HB1.out⟩
            case measure => simp [intOf]; omega
          · subst h1 h2 h3
            go_wp2
            go_roundw
            case rel => exact ⟨k + 1, n, T, D, a3, c3, by omega, by go_num, rfl, hn0, by omega, HON.out, HCN.out, wb_put (Nat.le_refl _) HB1.out.gr HB1.out.bx HB2.out.wd HNE.out⟩
            case measure => simp [intOf]; omega
          · subst h1 h2
            have HO2 := Lib.hid hon2
            have HC2 := Lib.hid hcnt2
            clear hon2 hcnt2 hlow
            go_wp2
            go_roundw
            case rel => exact ⟨k + 1, n + 1, T, D ++ [q], a3, c3, by omega, by go_num, by go_num, by omega, by omega, HO2.out, by rw [HC2.out, HCN.out], wb_put (Nat.le_refl _) HB1.out.gr HB1.out.bx HB2.out.wd HNE.out⟩
            case measure => simp [intOf]; omega
      · have hi : ¬ (k : Int) < (l.length : Int) := by omega
        have hcn : V.low + (V.seen.length : Int) = n := hcnt
        have hlo := ((Wn.may_iff V).1 hon.may).1.1
        have HT0 := Lib.hid (fun w' (g : Gr wr w') => take_any V (V.low + 1) a1 c1 w' (HB.out.wd.gr g))
        rw [Wn.on_next hon.may (by omega)] at HT0
        have HM := Lib.hid (fun w' (g : Gr wr w') => miss_any V a1 c1 w' (HB.out.wd.gr g))
        have hms : (V.seen.length = 0 ∧ Wn.miss V = []) ∨ (0 < V.seen.length ∧ ∃ r, Wn.miss V = (V.low + 1) :: r ∧ r.length ≤ 16) := by
          by_cases hs : V.seen = []
          · exact Or.inl ⟨by rw [hs]; rfl, Wn.miss_none hs⟩
          · obtain ⟨r, hr⟩ := Wn.miss_head hon.may hs
            have := Wn.miss_len hon.may
            rw [hr, List.length_cons] at this
            exact Or.inr ⟨by rcases Nat.eq_zero_or_pos V.seen.length with h | h; exact absurd (List.eq_nil_of_length_eq_zero h) hs; exact h, r, hr, by omega⟩
        clear hon hcnt HON HCN HB
        generalize Wn.miss V = M at *
        generalize Wn.more V (V.low + 1) = T at *
        generalize V.seen.length = sl at *
        generalize V.low = low at *
        have HT : Hid (∀ w', Gr wr w' → Calls Try.prog 7 #[wdV low a1 sl c1, .int .i64 (low + 1)] w' fun e w2 => ∃ a3 c3, e = .returned (.tuple #[wdV T.low a3 T.seen.length c3, .bool true, .int .i64 0]) ∧ Gr w' w2) := fun w' g => by
          refine (HT0.out w' g).mono ?_
          rintro e w2 ⟨a3, c3, he, _, _, h⟩
          exact ⟨a3, c3, he, h⟩
        have hcb : (low + (sl : Int) != n) = false := by rw [bne_eq_false_iff_eq]; exact hcn
        have hl2 : low ≤ 200 := by omega
        have hs2 : (sl : Int) ≤ 200 := by omega
        clear hb1 hcn HT0
        go_wp2_with fail
        refine (HT.out _ (Gr.refl _)).mono ?_
        rintro e w1 ⟨a3, c3, rfl, hg1⟩
        have hg1' : Gr wr (w1.alloc (.cells #[.int .i64 T.low, .slice a3 T.seen.length c3] 24)) := hg1.alloc
        have G1 := Lib.hid hg1'
        have d0' := hg1'.keep d0
        have d1' := hg1'.keep d1
        clear hg1'
        clear d0 d1 hg1
        go_wp2_with fail
        refine (HM.out _ G1.out).mono ?_
        rintro e w2 ⟨a4, c4, rfl, hm4, hg2⟩
        have G2 := Lib.hid (G1.out.trans hg2)
        have k0 := hg2.keep d0'
        have k1 := hg2.keep d1'
        clear hg2 d0' d1' HT HM
        rcases hms with ⟨hs0, hm0⟩ | ⟨hs0, r, rfl, hr⟩
        · subst hs0
          have hm0 : M.length = 0 := by rw [hm0]; rfl
          clear hm4
          generalize M.length = ml at *
          subst hm0
          go_upto_region 17 with fail
          refine wp_region_held_drew (S := (fun w' => Gr w2 w' ∧ w'.cell? ⟨w.heap.size, 0, none⟩ = some (.int .i64 low) ∧ w'.cell? ⟨w.heap.size, 1, none⟩ = some (.slice a1 0 c1))) (by kernel_rfl) (by first | with_reducible exact hHeld | with_reducible exact ⟨(Gr.refl _).drew, (Gr.refl _).drew.keep k0, (Gr.refl _).drew.keep k1⟩ | with_reducible exact ⟨hHeld.1.trans hgg, hgg.keep hHeld.2.1, hgg.keep hHeld.2.2⟩) (fun hHeld => ?_)
          refine take_yes 0 59 (v := ?_) rfl rfl (by kernel_rfl) (by kernel_rfl) (by kernel_rfl) (fun _ _ _ h => h) (by rfl) ?_ hHeld ?_
          rotate_left
          · (intro w hSw; (try dsimp only at hSw); go_simp; try with_reducible rfl)
          simp only [Act.put, List.setIfInBounds_toArray, List.set_cons_zero, List.set_cons_succ]
          refine take_yes 1 60 (v := ?_) rfl rfl (by kernel_rfl) (by kernel_rfl) (by kernel_rfl) (fun _ _ _ h => h) (by rfl) ?_ hHeld ?_
          rotate_left
          · (intro w hSw; (try dsimp only at hSw); go_simp; try with_reducible rfl)
          simp only [Act.put, List.setIfInBounds_toArray, List.set_cons_zero, List.set_cons_succ]
          refine take_yes 2 61 (v := ?_) rfl rfl (by kernel_rfl) (by kernel_rfl) (by kernel_rfl) (fun _ _ _ h => h) (by rfl) ?_ hHeld ?_
          rotate_left
          · (intro w hSw; (try dsimp only at hSw); go_simp; try with_reducible rfl)
          simp only [Act.put, List.setIfInBounds_toArray, List.set_cons_zero, List.set_cons_succ]
          refine take_yes 3 62 (v := ?_) rfl rfl (by kernel_rfl) (by kernel_rfl) (by kernel_rfl) (fun _ _ _ h => h) (by rfl) ?_ hHeld ?_
          rotate_left
          · (intro w hSw; (try dsimp only at hSw); go_simp; try with_reducible rfl)
          simp only [Act.put, List.setIfInBounds_toArray, List.set_cons_zero, List.set_cons_succ]
          refine take_yes 4 63 (v := ?_) rfl rfl (by kernel_rfl) (by kernel_rfl) (by kernel_rfl) (fun _ _ _ h => h) (by rfl) ?_ hHeld ?_
          rotate_left
          · (intro w hSw; (try dsimp only at hSw); go_simp; try with_reducible rfl)
          simp only [Act.put, List.setIfInBounds_toArray, List.set_cons_zero, List.set_cons_succ]
          refine take_yes 5 64 (v := ?_) rfl rfl (by kernel_rfl) (by kernel_rfl) (by kernel_rfl) (fun _ _ _ h => h) (by rfl) ?_ hHeld ?_
          rotate_left
          · (intro w hSw; (try dsimp only at hSw); go_simp; try with_reducible rfl)
          simp only [Act.put, List.setIfInBounds_toArray, List.set_cons_zero, List.set_cons_succ]
          refine take_yes 6 65 (v := ?_) rfl rfl (by kernel_rfl) (by kernel_rfl) (by kernel_rfl) (fun _ _ _ h => h) (by rfl) ?_ hHeld ?_
          rotate_left
          · (intro w hSw; (try dsimp only at hSw); go_simp; try with_reducible rfl)
          simp only [Act.put, List.setIfInBounds_toArray, List.set_cons_zero, List.set_cons_succ]
          refine take_yes 7 66 (v := ?_) rfl rfl (by kernel_rfl) (by kernel_rfl) (by kernel_rfl) (fun _ _ _ h => h) (by rfl) ?_ hHeld ?_
          rotate_left
          · (intro w hSw; (try dsimp only at hSw); go_simp; try with_reducible rfl)
          simp only [Act.put, List.setIfInBounds_toArray, List.set_cons_zero, List.set_cons_succ]
          refine take_yes 8 67 (v := ?_) rfl rfl (by kernel_rfl) (by kernel_rfl) (by kernel_rfl) (fun _ _ _ h => h) (by rfl) ?_ hHeld ?_
          rotate_left
          · (intro w hSw; (try dsimp only at hSw); go_simp; try with_reducible rfl)
          simp only [Act.put, List.setIfInBounds_toArray, List.set_cons_zero, List.set_cons_succ]
          refine take_yes 9 68 (v := ?_) rfl rfl (by kernel_rfl) (by kernel_rfl) (by kernel_rfl) (fun _ _ _ h => h) (by rfl) ?_ hHeld ?_
          rotate_left
          · (intro w hSw; (try dsimp only at hSw); go_simp; try with_reducible rfl)
          simp only [Act.put, List.setIfInBounds_toArray, List.set_cons_zero, List.set_cons_succ]
          refine take_yes 10 69 (v := ?_) rfl rfl (by kernel_rfl) (by kernel_rfl) (by kernel_rfl) (fun _ _ _ h => h) (by rfl) ?_ hHeld ?_
          rotate_left
          · (intro w hSw; (try dsimp only at hSw); go_simp; try with_reducible rfl)
          simp only [Act.put, List.setIfInBounds_toArray, List.set_cons_zero, List.set_cons_succ]
          refine take_yes 11 70 (v := ?_) rfl rfl (by kernel_rfl) (by kernel_rfl) (by kernel_rfl) (fun _ _ _ h => h) (by rfl) ?_ hHeld ?_
          rotate_left
          · (intro w hSw; (try dsimp only at hSw); go_simp; try with_reducible rfl)
          simp only [Act.put, List.setIfInBounds_toArray, List.set_cons_zero, List.set_cons_succ]
          refine take_yes 12 71 (v := ?_) rfl rfl (by kernel_rfl) (by kernel_rfl) (by kernel_rfl) (fun _ _ _ h => h) (by rfl) ?_ hHeld ?_
          rotate_left
          · (intro w hSw; (try dsimp only at hSw); go_simp; try with_reducible rfl)
          simp only [Act.put, List.setIfInBounds_toArray, List.set_cons_zero, List.set_cons_succ]
          refine take_yes 13 72 (v := ?_) rfl rfl (by kernel_rfl) (by kernel_rfl) (by kernel_rfl) (fun _ _ _ h => h) (by rfl) ?_ hHeld ?_
          rotate_left
          · (intro w hSw; (try dsimp only at hSw); go_simp; try with_reducible rfl)
          simp only [Act.put, List.setIfInBounds_toArray, List.set_cons_zero, List.set_cons_succ]
          refine take_yes 14 73 (v := ?_) rfl rfl (by kernel_rfl) (by kernel_rfl) (by kernel_rfl) (fun _ _ _ h => h) (by rfl) ?_ hHeld ?_
          rotate_left
          · (intro w hSw; (try dsimp only at hSw); go_simp; try with_reducible rfl)
          simp only [Act.put, List.setIfInBounds_toArray, List.set_cons_zero, List.set_cons_succ]
          refine take_yes 15 74 (v := ?_) rfl rfl (by kernel_rfl) (by kernel_rfl) (by kernel_rfl) (fun _ _ _ h => h) (by rfl) ?_ hHeld ?_
          rotate_left
          · (intro w hSw; (try dsimp only at hSw); go_simp; try with_reducible rfl)
          simp only [Act.put, List.setIfInBounds_toArray, List.set_cons_zero, List.set_cons_succ]
          refine take_yes 16 75 (v := ?_) rfl rfl (by kernel_rfl) (by kernel_rfl) (by kernel_rfl) (fun _ _ _ h => h) (by rfl) ?_ hHeld ?_
          rotate_left
          · (intro w hSw; (try dsimp only at hSw); go_simp; try with_reducible rfl)
          simp only [Act.put, List.setIfInBounds_toArray, List.set_cons_zero, List.set_cons_succ]
          refine take_yes 17 76 (v := ?_) rfl rfl (by kernel_rfl) (by kernel_rfl) (by kernel_rfl) (fun _ _ _ h => h) (by rfl) ?_ hHeld ?_
          rotate_left
          · (intro w hSw; (try dsimp only at hSw); go_simp; try with_reducible rfl)
          simp only [Act.put, List.setIfInBounds_toArray, List.set_cons_zero, List.set_cons_succ]
          refine take_yes 18 77 (v := ?_) rfl rfl (by kernel_rfl) (by kernel_rfl) (by kernel_rfl) (fun _ _ _ h => h) (by rfl) ?_ hHeld ?_
          rotate_left
          · (intro w hSw; (try dsimp only at hSw); go_simp; try with_reducible rfl)
          simp only [Act.put, List.setIfInBounds_toArray, List.set_cons_zero, List.set_cons_succ]
          refine take_yes 19 78 (v := ?_) rfl rfl (by kernel_rfl) (by kernel_rfl) (by kernel_rfl) (fun _ _ _ h => h) (by rfl) ?_ hHeld ?_
          rotate_left
          · (intro w hSw; (try dsimp only at hSw); go_simp; try with_reducible rfl)
          simp only [Act.put, List.setIfInBounds_toArray, List.set_cons_zero, List.set_cons_succ]
          refine take_not 20 79 rfl rfl (by kernel_rfl) (by kernel_rfl) (by kernel_rfl) (fun _ _ _ h => h) (by rfl) hHeld ?_
          simp only [Act.put, List.setIfInBounds_toArray, List.set_cons_zero, List.set_cons_succ]
          refine take_not 21 80 rfl rfl (by kernel_rfl) (by kernel_rfl) (by kernel_rfl) (fun _ _ _ h => h) (by rfl) hHeld ?_
          simp only [Act.put, List.setIfInBounds_toArray, List.set_cons_zero, List.set_cons_succ]
          refine take_not 22 81 rfl rfl (by kernel_rfl) (by kernel_rfl) (by kernel_rfl) (fun _ _ _ h => h) (by rfl) hHeld ?_
          simp only [Act.put, List.setIfInBounds_toArray, List.set_cons_zero, List.set_cons_succ]
          refine take_not 23 82 rfl rfl (by kernel_rfl) (by kernel_rfl) (by kernel_rfl) (fun _ _ _ h => h) (by rfl) hHeld ?_
          simp only [Act.put, List.setIfInBounds_toArray, List.set_cons_zero, List.set_cons_succ]
          refine take_not 24 83 rfl rfl (by kernel_rfl) (by kernel_rfl) (by kernel_rfl) (fun _ _ _ h => h) (by rfl) hHeld ?_
          simp only [Act.put, List.setIfInBounds_toArray, List.set_cons_zero, List.set_cons_succ]
          refine take_not 25 84 rfl rfl (by kernel_rfl) (by kernel_rfl) (by kernel_rfl) (fun _ _ _ h => h) (by rfl) hHeld ?_
          simp only [Act.put, List.setIfInBounds_toArray, List.set_cons_zero, List.set_cons_succ]
          refine take_not 26 85 rfl rfl (by kernel_rfl) (by kernel_rfl) (by kernel_rfl) (fun _ _ _ h => h) (by rfl) hHeld ?_
          simp only [Act.put, List.setIfInBounds_toArray, List.set_cons_zero, List.set_cons_succ]
          refine take_yes 27 86 (v := ?_) rfl rfl (by kernel_rfl) (by kernel_rfl) (by kernel_rfl) (fun _ _ _ h => h) (by rfl) ?_ hHeld ?_
          rotate_left
          · (intro w hSw; (try dsimp only at hSw); go_simp; try with_reducible rfl)
          simp only [Act.put, List.setIfInBounds_toArray, List.set_cons_zero, List.set_cons_succ]
          refine take_yes 28 87 (v := ?_) rfl rfl (by kernel_rfl) (by kernel_rfl) (by kernel_rfl) (fun _ _ _ h => h) (by rfl) ?_ hHeld ?_
          rotate_left
          · (intro w hSw; (try dsimp only at hSw); go_simp; try with_reducible rfl)
          simp only [Act.put, List.setIfInBounds_toArray, List.set_cons_zero, List.set_cons_succ]
          refine take_yes 29 88 (v := ?_) rfl rfl (by kernel_rfl) (by kernel_rfl) (by kernel_rfl) (fun _ _ _ h => h) (by rfl) ?_ hHeld ?_
          rotate_left
          · (intro w hSw; (try dsimp only at hSw); go_simp; try with_reducible rfl)
          simp only [Act.put, List.setIfInBounds_toArray, List.set_cons_zero, List.set_cons_succ]
          refine wpAnyH_ready (rs := [30]) (by kernel_rfl) (by simp) (AllReadyH.cons rfl (fun K hK => ?_) AllReadyH.nil)
          go_simp
          (go_at_call 6; refine (HA.out _).mono ?_; rintro e wg ⟨rfl, hgg⟩)
          (try go_wp2_with fail)
          refine hK.out _ _ (by first | with_reducible exact hHeld | with_reducible exact ⟨(Gr.refl _).drew, (Gr.refl _).drew.keep k0, (Gr.refl _).drew.keep k1⟩ | with_reducible exact ⟨hHeld.1.trans hgg, hgg.keep hHeld.2.1, hgg.keep hHeld.2.2⟩) (fun hHeldN => ?_)
          clear hHeld hK K
          have hHeld := hHeldN
          clear hHeldN
          refine take_yes 31 90 (v := ?_) rfl rfl (by kernel_rfl) (by kernel_rfl) (by kernel_rfl) (fun _ _ _ h => h) (by rfl) ?_ hHeld ?_
          rotate_left
          · (intro w hSw; (try dsimp only at hSw); go_simp; try with_reducible rfl)
          simp only [Act.put, List.setIfInBounds_toArray, List.set_cons_zero, List.set_cons_succ]
          refine take_yes 32 2 (v := ?_) rfl rfl (by kernel_rfl) (by kernel_rfl) (by kernel_rfl) (fun _ _ _ h => h) (by rfl) ?_ hHeld ?_
          rotate_left
          · (intro w hSw; (try dsimp only at hSw); go_simp; try with_reducible rfl)
          simp only [Act.put, List.setIfInBounds_toArray, List.set_cons_zero, List.set_cons_succ]
          refine wpAnyH_done (by kernel_rfl) ?_ _
          go_wp2
          go_ret
          exact ⟨rfl, (HG.out.trans G2.out).trans hHeld.1⟩
        · obtain ⟨b4, off4, rfl, hb4, hc4⟩ := hm4 0 (by simp)
          have hc4 : w2.cell? ⟨b4, off4, none⟩ = some (.int .i64 (low + 1)) := hc4
          have hml : 0 < ((low + 1) :: r).length := by simp
          have hwr : IntKind.i64.wrap (low + 1) = low + 1 := by rw [IntKind.wrap_i64]; omega
          have hsb : ((sl : Int) == 0) = false := by rw [beq_eq_false_iff_ne]; omega
          clear hm4 hr
          generalize ((low + 1) :: r).length = ml at *
          have hrb : ((ml : Int) == 0) = false := by rw [beq_eq_false_iff_ne]; omega
          have hri : (0 : Int) < (ml : Int) := by omega
          have hes : (low + 1 == low + 1) = true := by simp
          go_upto_region 17 with fail
          go_region_held3 (fun w' => Gr w2 w' ∧ w'.cell? ⟨w.heap.size, 0, none⟩ = some (.int .i64 low) ∧ w'.cell? ⟨w.heap.size, 1, none⟩ = some (.slice a1 sl c1) ∧ w'.cell? ⟨b4, off4, none⟩ = some (.int .i64 (low + 1)))
            ((go_split_ands; exact ⟨(by repeat (first | exact Gr.refl _ | refine Gr.alloc ?_ | refine Gr.drew ?_ | refine Gr.trans ?_ (by assumption))), Gr.keep (W := w2) (by repeat (first | exact Gr.refl _ | refine Gr.alloc ?_ | refine Gr.drew ?_ | refine Gr.trans ?_ (by assumption))) k0, Gr.keep (W := w2) (by repeat (first | exact Gr.refl _ | refine Gr.alloc ?_ | refine Gr.drew ?_ | refine Gr.trans ?_ (by assumption))) k1, Gr.keep (W := w2) (by repeat (first | exact Gr.refl _ | refine Gr.alloc ?_ | refine Gr.drew ?_ | refine Gr.trans ?_ (by assumption))) hc4⟩))
            ((go_at_call 6; refine (HA.out _).mono ?_; rintro e wg ⟨rfl, hgg⟩; go_split_ands))
          all_goals go_wp2
          all_goals go_ret
          all_goals exact ⟨rfl, (HG.out.trans G2.out).trans (by repeat (first | exact Gr.refl _ | refine Gr.alloc ?_ | refine Gr.drew ?_ | refine Gr.trans ?_ (by assumption)))⟩

set_option maxRecDepth 100000 in
theorem windowLow_lifted (os : Os) (started : os.Started) (H : Type) (enc : TypeId × Value → H) :
    ReturnsInHanded {} Try.checked os 5 .any (Rows.windowLowSpec.pre6 enc Try.prog Try.f5 Rows.windowLowRow.domain false) (Rows.windowLowSpec.post enc Try.prog Try.f5 false true false false) := by
  refine returnsInHanded_of_change (C := Try.checked) own2 started (by kernel_rfl) Try.func5
    (ChangeSpec.witness6 (enc := enc) (C := Try.checked) false ⟨#[], #[.slice none 0 0], []⟩ 8 (by kernel_rfl) (by kernel_rfl) (by kernel_rfl) (by kernel_rfl)) ?_
  intro W base args ds gs before hval0 hW hcnd _
  have hval : ∀ (j : Nat) t v, Try.f5.params[j]? = some t → args[j]? = some v → Value.okWide Try.prog W .any base t v := hval0
  have hW' := hW
  obtain ⟨p, q, hA0, hV, rfl, hfz, hnd⟩ := hW
  have hA : DataW.TrodAll enc Try.prog W 0 (fun _ => true) true Try.f5.params.toList args.toList ds p := hA0
  rw [Try.params5] at hA hval
  obtain ⟨v0, d0, rfl, rfl, q0⟩ := trodAll_one hA
  obtain ⟨rfl, rfl⟩ := trodVars_none hV
  have k0 := q0
  have lt0 : ∀ x ∈ p, x.block < W.heap.size := by obtain ⟨m, hm⟩ := k0; exact DataW.trod_lt m _ _ _ hm
  obtain ⟨ad0, cap0, L0, rfl, hL0, hn0, hc0, hr0, hz0⟩ := open_row (hval 0 22 v0 rfl rfl) q0
  clear hA0 hval0
  refine (windowLow_walk L0 ad0 cap0 W hL0 hn0).mono fun e W' ⟨he, hg⟩ => ?_
  subst he
  exact ⟨_, rfl, _, _, _, [], _, [], hW', trodAll_mk1 (shut_bool Try.underlying4 _), trodAll_mk1 (Below.trod laidOut2 (by kernel_rfl) (of_decide_eq_true (by kernel_rfl)) k0 hg.below lt0), rfl, hg.below.frame _, fun h => by cases h⟩

theorem windowLow_holds : Rows.WindowLowSaid :=
  OpenClaim.holds_of_wide 5 Try.f5 rfl rfl rfl rfl rfl rfl rfl ⟨rfl, rfl, rfl, rfl, rfl⟩ rfl rfl rfl rfl rfl (by kernel_rfl) Try.func5 (by kernel_rfl)
    (of_decide_eq_true (by kernel_rfl)) (by unfold Func.isWrapper; first | (rw [if_pos (by decide +kernel)]; kernel_rfl) | (rw [if_neg (by decide +kernel)]; exact ⟨rfl, rfl⟩))
    (fun os started H enc _ => windowLow_lifted os started H enc)
end Go.Proofs.Ytdgjgpcfpkpnlaa
