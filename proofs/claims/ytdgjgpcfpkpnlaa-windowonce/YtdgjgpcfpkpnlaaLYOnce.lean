
/- For every row of numbers the law WindowOnce answers true: in whatever order numbers come, however often, each is fresh just the first time that it is not too far ahead; what was taken stays so. -/
import Derived.Test.YtdgjgpcfpkpnlaaWnK
import Derived.Test.YtdgjgpcfpkpnlaaWnW
import Derived.Test.YtdgjgpcfpkpnlaaWnS
import Derived.Test.YtdgjgpcfpkpnlaaOpenO
import Derived.BigQuiet
import Derived.Maps.AppendAt
namespace Go.Proofs.Ytdgjgpcfpkpnlaa
open Go.ChangeShapes Go.WideShapes Go.ChangeAt Go.RowKit
open Wn (Wd)

/- a window in its box, its row, and a row of its own beside both -/
structure OcAt (w wr : World) (a1 : Option Addr) (c1 : Nat) (V : Wd) (v : Value) (D : List Int) : Prop where
  wb : WbAt w wr w.heap.size a1 c1 V
  own : wr.ownsRow (w.heap.size + 1) 3 1 v D.length (intV D)
  far : ∀ g, v.ownBlock = some g → ∀ a, a1 = some a → a.block ≠ g
theorem OcAt.up {w wr w2 : World} {a1 : Option Addr} {c1 : Nat} {V : Wd} {v : Value} {D : List Int} (h : OcAt w wr a1 c1 V v D) (g : Gr wr w2) : OcAt w w2 a1 c1 V v D :=
  ⟨h.wb.up g, row_gr h.own g, h.far⟩
theorem ints_grown {w w' : World} {ad : Option Addr} {l : List Int} {r : Option Nat} (h : IntsAt w ad l) (k : w.grownBy w' r) (hr : ∀ x, r = some x → ∀ a, ad = some a → a.block ≠ x) : IntsAt w' ad l := by
  intro j hj
  obtain ⟨b, off, e, hb, hc⟩ := h j hj
  exact ⟨b, off, e, Nat.lt_of_lt_of_le hb k.size, (World.cell?_of_block (a := ⟨b, off + j, none⟩) (k.block b hb (fun e2 => hr b e2.symm _ e rfl))).trans hc⟩
/- the next window is laid into the box -/
theorem oc_put {w w1 : World} {T : Wd} {a3 : Option Addr} {c3 : Nat} {x y v : Value} {D : List Int} (hg : Gr w w1) (hb : Bx2 w1 w.heap.size x y) (hw : WdAt w1 a3 c3 T)
    (hne : ∀ a, a3 = some a → a.block ≠ w.heap.size ∧ w.heap.size ≤ a.block ∧ a.block < w1.heap.size) (ho : w1.ownsRow (w.heap.size + 1) 3 1 v D.length (intV D)) (hf : ∀ g, v.ownBlock = some g → ∀ a, a3 = some a → a.block ≠ g) :
    OcAt w ((w1.setCell ⟨w.heap.size, 0, none⟩ (.int .i64 T.low)).setCell ⟨w.heap.size, 1, none⟩ (.slice a3 T.seen.length c3)) a3 c3 T v D :=
  ⟨wb_put (Nat.le_refl _) hg hb hw hne, row_set (row_set ho _ _ (Nat.lt_succ_self _)) _ _ (Nat.lt_succ_self _), hf⟩
theorem mem_take_step {D : List Int} {j : Nat} (hj : j < D.length) (q : Int) : (decide (q ∈ D.take (j + 1)) : Bool) = (decide (q ∈ D.take j) || (D[j] == q)) := by
  rw [List.take_succ_eq_append_getElem hj]
  by_cases h1 : q ∈ D.take j
  · rw [decide_eq_true h1, decide_eq_true (List.mem_append_left _ h1)]; rfl
  · rw [decide_eq_false h1, Bool.false_or]
    by_cases h2 : D[j] = q
    · rw [decide_eq_true (List.mem_append_right _ (by simp [h2])), beq_iff_eq.2 h2]
    · rw [beq_eq_false_iff_ne.2 h2]
      refine decide_eq_false (fun h => ?_)
      rcases List.mem_append.1 h with h | h
      · exact h1 h
      · rw [List.mem_singleton] at h; exact h2 h.symm
set_option maxHeartbeats 8000000 in
set_option maxRecDepth 100000 in
theorem windowOnce_walk (l : List Int) (ad : Option Addr) (cap : Nat) (w : World) (hL : IntsAt w ad l) (hn : l.length ≤ 9223372036854775807) :
    Calls Try.prog 4 #[.slice ad l.length cap] w fun e w' => e = .returned (.bool true) ∧ Gr w w' := by
  have HA : Hid (∀ w', Calls Try.prog 6 #[] w' fun e w2 => e = .returned (.bool true) ∧ Gr w' w2) := fun w' => awake_any w'
  by_cases hbig : 200 < l.length
  · clear hL
    generalize l.length = n at *
    have hb : (200 : Int) < (n : Int) := by omega
    go_enter Try.func4, Try.ntmps4
    go_wp2_with fail
    refine (HA.out _).mono ?_
    rintro e w1 ⟨rfl, hg1⟩
    go_wp2
    go_ret
    exact ⟨rfl, hg1⟩
  · have HL := Lib.hid hL
    obtain ⟨i0, hi0, hz0, hz1, hz2⟩ := info_parts infoN
    clear hL hn
    have hb : ¬ ((200 : Int) < (l.length : Int)) := by omega
    go_enter Try.func4, Try.ntmps4
    go_wp2
    go_loopw [4, 5] (fun v iv wr => ∃ (k : Nat) (V : Wd) (D : List Int) (a1 : Option Addr) (c1 : Nat), k ≤ l.length ∧ iv = .int .i64 (k : Int) ∧ D.length ≤ k ∧ Wn.OnM V D ∧ OcAt w wr a1 c1 V v D) (fun _ i _ => l.length - (intOf i).toNat)
    case atStart => exact ⟨0, ⟨0, []⟩, [], none, 0, Nat.zero_le _, rfl, by simp, Wn.on_nil, ⟨⟨Nat.le_refl _, Bx2.new _ _ _ _ _ rfl, wd_zero _, (fun a e => by cases e), (Gr.refl w).alloc⟩, World.ownsRow_nil _ _ _ _, (fun g e => by cases e)⟩⟩
    case round =>
      rename_i v
      obtain ⟨k, V, D, a1, c1, hk, rfl, hDk, hon, hoc⟩ := hrel
      have HOC := Lib.hid hoc
      have HON := Lib.hid hon
      have HG := Lib.hid hoc.wb.gr
      obtain ⟨d0, d1, _, _, dl⟩ := hoc.wb.bx
      obtain ⟨va, vc, rfl⟩ := own_slice hoc.own
      by_cases hlt : k < l.length
      · obtain ⟨b, off, rfl, hbl, hc⟩ := HL.out k hlt
        have hc := HG.out.keep hc
        have hi : (k : Int) < (l.length : Int) := by omega
        have HT0 := Lib.hid (fun w' (g : Gr wr w') => take_any V l[k] a1 c1 w' (HOC.out.wb.wd.gr g))
        have HST := Lib.hid (Wn.on_step hon l[k])
        clear hoc hon hbl
        generalize l[k] = q at *
        generalize Wn.take V q = T at *
        obtain ⟨T, fr, er⟩ := T
        simp only at HST
        have HT : Hid (∀ w', Gr wr w' → Calls Try.prog 7 #[wdV V.low a1 V.seen.length c1, .int .i64 q] w' fun e w2 => ∃ a3 c3, e = .returned (.tuple #[wdV T.low a3 T.seen.length c3, .bool fr, .int .i64 er]) ∧ WdAt w2 a3 c3 T ∧ (∀ a, a3 = some a → w'.heap.size ≤ a.block ∧ a.block < w2.heap.size) ∧ Gr w' w2) := HT0
        clear HT0
        go_upto_region 8 with fail
        go_cut [6, 7, 8] from 16 to 79 (fun p f c wx => f = .bool fr ∧ c = .int .i64 er ∧ AlI wr wx p T)
        case first =>
          go_region_held3 (fun w' => Gr wr w' ∧ w'.cell? ⟨w.heap.size, 0, none⟩ = some (.int .i64 V.low) ∧ w'.cell? ⟨w.heap.size, 1, none⟩ = some (.slice a1 V.seen.length c1) ∧ w'.cell? ⟨b, off + k, none⟩ = some (.int .i64 q))
            ((exact ⟨(by (repeat' (first | with_reducible exact Gr.refl _ | with_reducible refine Gr.set ?_ _ ?_ _ | with_reducible refine Gr.alloc ?_ | with_reducible refine Gr.drew ?_ | with_reducible refine Gr.trans ?_ (by assumption))) <;> (first | (simp; done) | (simp; omega) | omega)), Gr.keep (by (repeat' (first | with_reducible exact Gr.refl _ | with_reducible refine Gr.set ?_ _ ?_ _ | with_reducible refine Gr.alloc ?_ | with_reducible refine Gr.drew ?_ | with_reducible refine Gr.trans ?_ (by assumption))) <;> (first | (simp; done) | (simp; omega) | omega)) d0, Gr.keep (by (repeat' (first | with_reducible exact Gr.refl _ | with_reducible refine Gr.set ?_ _ ?_ _ | with_reducible refine Gr.alloc ?_ | with_reducible refine Gr.drew ?_ | with_reducible refine Gr.trans ?_ (by assumption))) <;> (first | (simp; done) | (simp; omega) | omega)) d1, Gr.keep (by (repeat' (first | with_reducible exact Gr.refl _ | with_reducible refine Gr.set ?_ _ ?_ _ | with_reducible refine Gr.alloc ?_ | with_reducible refine Gr.drew ?_ | with_reducible refine Gr.trans ?_ (by assumption))) <;> (first | (simp; done) | (simp; omega) | omega)) hc⟩))
            ((first
              | (go_at_call 7; refine (HT.out _ (by (repeat' (first | with_reducible exact Gr.refl _ | with_reducible refine Gr.set ?_ _ ?_ _ | with_reducible refine Gr.alloc ?_ | with_reducible refine Gr.drew ?_ | with_reducible refine Gr.trans ?_ (by assumption))) <;> (first | (simp; done) | (simp; omega) | omega))).mono ?_; rintro e wn ⟨a3, c3, rfl, hw3, hn3, hgn⟩; have hbz := ((Bx2.new wr (.int .i64 0) (.slice none 0 0) 24 _ rfl).gr (Gr.refl _).drew).gr hgn; obtain ⟨z0, z1, zf0, zf1, z6⟩ := hbz)
              | (go_at_call 7; refine (HT.out _ (by (repeat' (first | with_reducible exact Gr.refl _ | with_reducible refine Gr.set ?_ _ ?_ _ | with_reducible refine Gr.alloc ?_ | with_reducible refine Gr.drew ?_ | with_reducible refine Gr.trans ?_ (by assumption))) <;> (first | (simp; done) | (simp; omega) | omega))).mono ?_; rintro e wn ⟨a3, c3, rfl, hw3, hn3, hgn⟩)))
          · go_wp2_with fail
            go_meet
            exact ⟨rfl, rfl, ali_last ((Gr.refl wr).drew.trans hgn) hw3 hn3 _⟩
          · go_wp2_with fail
            go_meet
            exact ⟨rfl, rfl, ali_first (Nat.le_refl _) ((Gr.refl wr).alloc.drew.trans hgn) ⟨z0, z1, zf0, zf1, z6⟩ hw3 (fun a e => by have := hn3 a e; simp at this; omega)⟩
        case rest =>
          obtain ⟨rfl, rfl, g, a3, c3, rfl, hb2⟩ := hcut
          have HB2 := Lib.hid hb2
          have HOC1 := Lib.hid (HOC.out.up hb2.gr)
          have hc1 := hb2.gr.keep hc
          have hgl := hb2.lo
          have HNV := Lib.hid (show ∀ g, (Value.slice va D.length vc).ownBlock = some g → ∀ a, a3 = some a → a.block ≠ g from fun g e a ea => by have := hb2.ne a ea; have := (HOC.out.own.lt g e).2; omega)
          have HVG := Lib.hid (show ∀ y, (Value.slice va D.length vc).ownBlock = some y → w.heap.size + 1 ≤ y ∧ y < g from fun y e => by have := HOC.out.own.lt y e; omega)
          have HNW := Lib.hid (show ∀ a, a3 = some a → a.block ≠ w.heap.size ∧ w.heap.size ≤ a.block from fun a e => by have := hb2.ne a e; omega)
          clear hb2 d0 d1 hc HT HOC
          obtain ⟨wb, hwb⟩ : ∃ x, x = wc := ⟨_, rfl⟩
          go_wp2
          go_loopw [9, 10] (fun mv jv w2 => ∃ j : Nat, j ≤ D.length ∧ jv = .int .i64 (j : Int) ∧ mv = .bool (decide (q ∈ D.take j)) ∧ Gr wb w2) (fun _ j _ => D.length - (intOf j).toNat)
          case atStart => exact ⟨0, Nat.zero_le _, rfl, by simp, by rw [hwb]; exact Gr.refl _⟩
          case round =>
            obtain ⟨j, hj, rfl, rfl, hg2⟩ := hrel
            rw [hwb] at hg2
            have G2 := Lib.hid hg2
            have hc2 := hg2.keep hc1
            have HO2 := Lib.hid (HOC1.out.up hg2)
            have HN2 := Lib.hid (HB2.out.up hg2)
            by_cases hjl : j < D.length
            · obtain ⟨va', vc', he', hcp', hia, _, _⟩ := own_intsN HO2.out.own
              cases he'
              obtain ⟨b5, off5, rfl, hb5, hc5⟩ := hia j hjl
              have hji : (j : Int) < (D.length : Int) := by omega
              have hj0 : (0 : Int) ≤ (j : Int) := by omega
              have hki : (0 : Int) ≤ (k : Int) := by omega
              have HS := Lib.hid (mem_take_step hjl q)
              clear hia hb5 hcp' hg2
              generalize D[j] = y at *
              cases hm : decide (q ∈ D.take j) with
              | true =>
                rw [hm, Bool.true_or] at HS
                go_wp2_with fail
                go_quiet (fail)
                go_wp2
                go_roundw
                case rel => exact ⟨j + 1, by omega, by go_num, by rw [HS.out], by rw [hwb]; exact G2.out.dn _⟩
                case measure => simp [intOf]; omega
              | false =>
                rw [hm, Bool.false_or] at HS
                go_wp2_with fail
                go_quiet (fail)
                go_wp2
                go_roundw
                case rel => exact ⟨j + 1, by omega, by go_num, by rw [HS.out], by rw [hwb]; exact G2.out.dn _⟩
                case measure => simp [intOf]; omega
            · have hji : ¬ (j : Int) < (D.length : Int) := by omega
              rw [List.take_of_length_le (show D.length ≤ j by omega)]
              obtain ⟨x0, x1, _, _, xl⟩ := HN2.out.bx
              obtain ⟨y0, y1, yf0, yf1, yl⟩ := HO2.out.wb.bx
              have hwl := HB2.out.gr.size
              have HNE := Lib.hid (show ∀ a, a3 = some a → a.block ≠ w.heap.size ∧ w.heap.size ≤ a.block ∧ a.block < wr.heap.size from fun a e => by have := HNW.out a e; have := HN2.out.ne a e; omega)
              clear hg2
              rcases HST.out with ⟨h1, h2, h3⟩ | ⟨h1, h2, h3, h4⟩ | ⟨h1, h2, h3, hlow, hon2, _⟩
              · subst h2
                rw [decide_eq_false h3]
                have heb : (er != 0) = true := by rw [bne_iff_ne]; exact h1
                clear h1 h3
                go_wp2
                go_roundw
                case rel => exact ⟨k + 1, V, D, a1, c1, by omega, by go_num, by omega, HON.out, HO2.out⟩
                case measure => simp [intOf]; omega
              · subst h1 h2 h4
                rw [decide_eq_true h3]
                have hbt : (false == true) = false := rfl
                have HMy := Lib.hid (fun w' (g : Gr wr w') => may_any T a3 c3 w' (HN2.out.wd.gr g))
                have hm0 : mayE T = 0 := by unfold mayE; rw [if_pos HON.out.may]
                rw [hm0] at HMy
                clear hm0 h3
                have hnl : ¬ T.low < T.low := by omega
                go_wp2_with fail
                refine (HMy.out _ (Gr.refl _)).mono ?_
                rintro e w5 ⟨rfl, hg5⟩
                have HO5 := Lib.hid (HO2.out.up hg5)
                have HN5 := Lib.hid (HN2.out.up hg5)
                obtain ⟨x0, x1, _, _, xl⟩ := HN5.out.bx
                obtain ⟨y0, y1, yf0, yf1, yl⟩ := HO5.out.wb.bx
                have HNE5 := Lib.hid (show ∀ a, a3 = some a → a.block ≠ w.heap.size ∧ w.heap.size ≤ a.block ∧ a.block < w5.heap.size from fun a e => by have := HNE.out a e; have := hg5.size; omega)
                clear hg5
                go_wp2
                go_roundw
                case rel => exact ⟨k + 1, T, D, a3, c3, by omega, by go_num, by omega, HON.out, oc_put HO5.out.wb.gr HO5.out.wb.bx HN5.out.wd HNE5.out HO5.out.own HNV.out⟩
                case measure => simp [intOf]; omega
              · subst h1 h2
                rw [decide_eq_false h3]
                have HMy := Lib.hid (fun w' (g : Gr wr w') => may_any T a3 c3 w' (HN2.out.wd.gr g))
                have hm0 : mayE T = 0 := by unfold mayE; rw [if_pos hon2.may]
                rw [hm0] at HMy
                have HON2 := Lib.hid hon2
                have hnl : ¬ T.low < V.low := by omega
                have hbt : (true == false) = false := rfl
                have hm1 : D.length + 1 ≤ maxLen := by unfold maxLen; omega
                have HE2 := Lib.hid (intV_snoc D q)
                clear hm0 h3 hon2
                go_wp2_with fail
                refine (HMy.out _ (Gr.refl _)).mono ?_
                rintro e w5 ⟨rfl, hg5⟩
                have HO5 := Lib.hid (HO2.out.up hg5)
                have HN5 := Lib.hid (HN2.out.up hg5)
                obtain ⟨x0, x1, _, _, xl⟩ := HN5.out.bx
                obtain ⟨y0, y1, yf0, yf1, yl⟩ := HO5.out.wb.bx
                have HNE5 := Lib.hid (show ∀ a, a3 = some a → a.block ≠ w.heap.size ∧ w.heap.size ≤ a.block ∧ a.block < w5.heap.size from fun a e => by have := HNE.out a e; have := hg5.size; omega)
                have hc5 := hg5.keep hc2
                have hown := HO5.out.own
                have hki : (0 : Int) ≤ (k : Int) := by omega
                clear hg5 hc2
                go_wp2_with (first
                  | (at_builtin; refine wpList_append_own_at _ rfl _ _ 22 rfl (w.heap.size + 1) 3 i0 (.int .i64 0) 1 8 Try.underlying22 hi0 hz0 hz1 hz2 rfl (by decide) _ _ _ rfl (hown.alloc _) ⟨w5.heap.size, 0, none⟩ 1 1 [.int .i64 q] rfl rfl (cell_one _ _ _) (by intro u hu; simp at hu; subst hu; rfl) hm1 (by omega) (by simp; omega) ?_)
                  | fail)
                intro v' w6 hown' hgrow _ hat
                obtain ⟨va', vc', rfl⟩ := own_slice hown'
                have hal : Gr w5 (w5.alloc (.cells #[.int .i64 q] 3)) := (Gr.refl w5).alloc
                have hsz : (w5.alloc (.cells #[.int .i64 q] 3)).heap.size = w5.heap.size + 1 := by simp
                have hs6 := hgrow.size
                have q1 := (HO5.out.wb.bx.gr hal).grown hgrow (fun y hy => by have := HVG.out y hy; omega)
                have q2 := (HN5.out.bx.gr hal).grown hgrow (fun y hy => by have := HVG.out y hy; omega)
                have Q1 := Lib.hid q1
                have Q3 : Hid (WdAt w6 a3 c3 T) := ⟨ints_grown (HN5.out.wd.row.gr hal) hgrow (fun x e a ea => HNV.out x e a ea), HN5.out.wd.fits, HN5.out.wd.len, HN5.out.wd.non, HN5.out.wd.lo0, HN5.out.wd.lo1⟩
                have Q4 : Hid (Gr w w6) := (HO5.out.wb.gr.trans hal).grown hgrow (fun y hy => by have := HVG.out y hy; omega)
                have Q5 := Lib.hid (show ∀ a, a3 = some a → a.block ≠ w.heap.size ∧ w.heap.size ≤ a.block ∧ a.block < w6.heap.size from fun a e => by have := HNE5.out a e; omega)
                have Q6 := Lib.hid (show ∀ g, (Value.slice va' (D.length + 1) vc').ownBlock = some g → ∀ a, a3 = some a → a.block ≠ g from fun y e a ea => by
                  rcases hat with h | h
                  · exact HNV.out y (h.symm.trans e) a ea
                  · have h2 := h.symm.trans e
                    injection h2 with h2
                    have := HNE5.out a ea
                    omega)
                have Q7 : Hid (w6.ownsRow (w.heap.size + 1) 3 1 (.slice va' (D.length + 1) vc') (D ++ [q]).length (intV (D ++ [q]))) := by show World.ownsRow _ _ _ _ _ _ _; rw [HE2.out, List.length_append]; exact hown'
                obtain ⟨y0, y1, yf0, yf1, yl⟩ := q1
                obtain ⟨x0, x1, _, _, xl⟩ := q2
                clear hown' hgrow hown hat hal hsz hs6 hc5
                go_wp2
                go_roundw
                case rel => exact ⟨k + 1, T, D ++ [q], a3, c3, by omega, by go_num, by rw [List.length_append]; simp; omega, HON2.out, oc_put Q4.out Q1.out Q3.out Q5.out Q7.out Q6.out⟩
                case measure => simp [intOf]; omega
      · have hi : ¬ (k : Int) < (l.length : Int) := by omega
        clear hoc hon d0 d1
        go_wp2_with fail
        refine (HA.out _).mono ?_
        rintro e w2 ⟨rfl, hg2⟩
        have G2 := Lib.hid (HG.out.trans hg2)
        clear hg2
        go_wp2
        go_ret
        exact ⟨rfl, G2.out⟩

set_option maxRecDepth 100000 in
theorem windowOnce_lifted (os : Os) (started : os.Started) (H : Type) (enc : TypeId × Value → H) :
    ReturnsInHanded {} Try.checked os 4 .any (Rows.windowOnceSpec.pre6 enc Try.prog Try.f4 Rows.windowOnceRow.domain false) (Rows.windowOnceSpec.post enc Try.prog Try.f4 false true false false) := by
  refine returnsInHanded_of_change (C := Try.checked) own2 started (by kernel_rfl) Try.func4
    (ChangeSpec.witness6 (enc := enc) (C := Try.checked) false ⟨#[], #[.slice none 0 0], []⟩ 8 (by kernel_rfl) (by kernel_rfl) (by kernel_rfl) (by kernel_rfl)) ?_
  intro W base args ds gs before hval0 hW hcnd _
  have hval : ∀ (j : Nat) t v, Try.f4.params[j]? = some t → args[j]? = some v → Value.okWide Try.prog W .any base t v := hval0
  have hW' := hW
  obtain ⟨p, q, hA0, hV, rfl, hfz, hnd⟩ := hW
  have hA : DataW.TrodAll enc Try.prog W 0 (fun _ => true) true Try.f4.params.toList args.toList ds p := hA0
  rw [Try.params4] at hA hval
  obtain ⟨v0, d0, rfl, rfl, q0⟩ := trodAll_one hA
  obtain ⟨rfl, rfl⟩ := trodVars_none hV
  have k0 := q0
  have lt0 : ∀ x ∈ p, x.block < W.heap.size := by obtain ⟨m, hm⟩ := k0; exact DataW.trod_lt m _ _ _ hm
  obtain ⟨ad0, cap0, L0, rfl, hL0, hn0, hc0, hr0, hz0⟩ := open_row (hval 0 22 v0 rfl rfl) q0
  clear hA0 hval0
  refine (windowOnce_walk L0 ad0 cap0 W hL0 hn0).mono fun e W' ⟨he, hg⟩ => ?_
  subst he
  exact ⟨_, rfl, _, _, _, [], _, [], hW', trodAll_mk1 (shut_bool Try.underlying4 _), trodAll_mk1 (Below.trod laidOut2 (by kernel_rfl) (of_decide_eq_true (by kernel_rfl)) k0 hg.below lt0), rfl, hg.below.frame _, fun h => by cases h⟩

theorem windowOnce_holds : Rows.WindowOnceSaid :=
  OpenClaim.holds_of_wide 4 Try.f4 rfl rfl rfl rfl rfl rfl rfl ⟨rfl, rfl, rfl, rfl, rfl⟩ rfl rfl rfl rfl rfl (by kernel_rfl) Try.func4 (by kernel_rfl)
    (of_decide_eq_true (by kernel_rfl)) (by unfold Func.isWrapper; first | (rw [if_pos (by decide +kernel)]; kernel_rfl) | (rw [if_neg (by decide +kernel)]; exact ⟨rfl, rfl⟩))
    (fun os started H enc _ => windowOnce_lifted os started H enc)
end Go.Proofs.Ytdgjgpcfpkpnlaa
