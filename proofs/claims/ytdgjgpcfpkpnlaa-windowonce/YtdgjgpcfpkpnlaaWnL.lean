
/- window: All. -/
import Derived.Test.YtdgjgpcfpkpnlaaWnG
namespace Go.Proofs.Ytdgjgpcfpkpnlaa
open Go.RowKit
open Wn (Wd)

/- a window in a box, its row beside it -/
structure WbAt (w0 w : World) (g : Nat) (ad : Option Addr) (cap : Nat) (W : Wd) : Prop where
  lo : w0.heap.size ≤ g
  bx : Bx2 w g (.int .i64 W.low) (.slice ad W.seen.length cap)
  wd : WdAt w ad cap W
  ne : ∀ a, ad = some a → a.block ≠ g ∧ w0.heap.size ≤ a.block ∧ a.block < w.heap.size
  gr : Gr w0 w
theorem WbAt.up {w0 w w' : World} {g : Nat} {ad : Option Addr} {cap : Nat} {W : Wd} (h : WbAt w0 w g ad cap W) (k : Gr w w') : WbAt w0 w' g ad cap W :=
  ⟨h.lo, h.bx.gr k, h.wd.gr k, fun a e => ⟨(h.ne a e).1, (h.ne a e).2.1, Nat.lt_of_lt_of_le (h.ne a e).2.2 k.size⟩, h.gr.trans k⟩
def AlI (w0 wx : World) (p : Value) (W : Wd) : Prop := ∃ g ad cap, p = .pointer (some ⟨g, 0, none⟩) ∧ WbAt w0 wx g ad cap W
theorem ali_last {w0 w1 : World} {W : Wd} {ad : Option Addr} {cap : Nat} (hg : Gr w0 w1) (hw : WdAt w1 ad cap W) (hb : ∀ a, ad = some a → w0.heap.size ≤ a.block ∧ a.block < w1.heap.size) (t : TypeId) :
    AlI w0 (w1.alloc (.cells #[.int .i64 W.low, .slice ad W.seen.length cap] t)) (.pointer (some ⟨w1.heap.size, 0, none⟩)) W :=
  ⟨_, ad, cap, rfl, hg.size, Bx2.new w1 _ _ _ _ rfl, hw.gr (Gr.refl _).alloc, fun a e => by have := hb a e; simp; omega, hg.alloc⟩
theorem ali_first {w0 w1 : World} {W : Wd} {ad : Option Addr} {cap : Nat} {g : Nat} (lo : w0.heap.size ≤ g) (hg : Gr w0 w1) (hb : Bx2 w1 g (.int .i64 0) (.slice none 0 0)) (hw : WdAt w1 ad cap W) (hne : ∀ a, ad = some a → a.block ≠ g ∧ w0.heap.size ≤ a.block ∧ a.block < w1.heap.size) :
    AlI w0 ((w1.setCell ⟨g, 0, none⟩ (.int .i64 W.low)).setCell ⟨g, 1, none⟩ (.slice ad W.seen.length cap)) (.pointer (some ⟨g, 0, none⟩)) W := by
  refine ⟨g, ad, cap, rfl, lo, ?_, ⟨(hw.row.set _ _ (fun a e => (hne a e).1.symm)).set _ _ (fun a e => (hne a e).1.symm), hw.fits, hw.len, hw.non, hw.lo0, hw.lo1⟩, by simpa using hne, gr_set2 hg g lo _ _⟩
  obtain ⟨h0, h1, f0, f1, hl⟩ := hb
  exact ⟨by simp [go_sem, *], by simp [go_sem, *], by simp [go_sem, *], by simp [go_sem, *], by simpa using hl⟩
theorem wb_put {w0 w1 : World} {V : Wd} {ad : Option Addr} {cap : Nat} {g : Nat} {x y : Value} (lo : w0.heap.size ≤ g) (hg : Gr w0 w1) (hb : Bx2 w1 g x y) (hw : WdAt w1 ad cap V) (hne : ∀ a, ad = some a → a.block ≠ g ∧ w0.heap.size ≤ a.block ∧ a.block < w1.heap.size) :
    WbAt w0 ((w1.setCell ⟨g, 0, none⟩ (.int .i64 V.low)).setCell ⟨g, 1, none⟩ (.slice ad V.seen.length cap)) g ad cap V := by
  refine ⟨lo, ?_, ⟨(hw.row.set _ _ (fun a e => (hne a e).1.symm)).set _ _ (fun a e => (hne a e).1.symm), hw.fits, hw.len, hw.non, hw.lo0, hw.lo1⟩, by simpa using hne, gr_set2 hg g lo _ _⟩
  obtain ⟨h0, h1, f0, f1, hl⟩ := hb
  exact ⟨by simp [go_sem, *], by simp [go_sem, *], by simp [go_sem, *], by simp [go_sem, *], by simpa using hl⟩
def AlR (w w' : World) (e : Ending) (r : Wd × Int × Int) : Prop :=
  ∃ ad cap, e = .returned (.tuple #[wdV r.1.low ad r.1.seen.length cap, .int .i64 r.2.1, .int .i64 r.2.2]) ∧ WdAt w' ad cap r.1 ∧ (∀ a, ad = some a → w.heap.size ≤ a.block ∧ a.block < w'.heap.size) ∧ Gr w w'
set_option maxHeartbeats 8000000 in
set_option maxRecDepth 100000 in
theorem all_any (W : Wd) (ad : Option Addr) (cap : Nat) (l : List Int) (al : Option Addr) (cl : Nat) (w : World) (h : WdAt w ad cap W) (hs : W.seen.length ≤ 1000) (hl : IntsAt w al l) (hn : l.length ≤ 1000000) :
    Calls Try.prog 15 #[wdV W.low ad W.seen.length cap, .slice al l.length cl] w fun e w' => AlR w w' e (Wn.allF W 0 l) := by
  have HC : Hid (∀ w', Gr w w' → Calls Try.prog 16 #[.slice ad W.seen.length cap] w' fun e w2 => ∃ v, e = .returned v ∧ w2.ownsRow w'.heap.size 3 1 v W.seen.length (intV W.seen) ∧ Gr w' w2) := fun w' g => copy_any W.seen ad cap w' (h.row.gr g) hs h.non
  have HW : Hid (∀ w' a' c', IntsAt w' a' W.seen → W.seen.length ≤ c' → (a' = none → c' = 0) → WdAt w' a' c' W) := fun w' a' c' h1 h2 h3 => ⟨h1, h2, h.len, h3, h.lo0, h.lo1⟩
  have HL := Lib.hid hl
  clear h hl
  go_enter Try.func15, Try.ntmps15
  go_upto_region 1 with fail
  have d0 := (Bx2.new w (.int .i64 W.low) (.slice ad W.seen.length cap) 24 w.heap.size rfl)
  have hRes := Lib.hid (Bx2.new (w.alloc (.cells #[.int .i64 W.low, .slice ad W.seen.length cap] 24)) (.int .i64 0) (.slice none 0 0) 24 (w.heap.size + 1) (by simp))
  obtain ⟨d0, d1, _, _, _⟩ := d0.gr (Gr.refl _).alloc (w' := (w.alloc (.cells #[.int .i64 W.low, .slice ad W.seen.length cap] 24)).alloc (.cells #[.int .i64 0, .slice none 0 0] 24))
  have G0 : Hid (Gr w ((w.alloc (.cells #[.int .i64 W.low, .slice ad W.seen.length cap] 24)).alloc (.cells #[.int .i64 0, .slice none 0 0] 24))) := (Gr.refl w).alloc.alloc
  generalize hW0 : (w.alloc (.cells #[.int .i64 W.low, .slice ad W.seen.length cap] 24)).alloc (.cells #[.int .i64 0, .slice none 0 0] 24) = w0 at *
  clear hW0
  go_cut [7] (fun p wx => AlI w0 wx p W)
  case first =>
    go_region_held3 (fun w' => Gr w0 w' ∧ w'.cell? ⟨w.heap.size, 0, none⟩ = some (.int .i64 W.low) ∧ w'.cell? ⟨w.heap.size, 1, none⟩ = some (.slice ad W.seen.length cap))
      ((exact ⟨(by (repeat' (first | with_reducible exact Gr.refl _ | with_reducible refine Gr.set ?_ _ ?_ _ | with_reducible refine Gr.alloc ?_ | with_reducible refine Gr.drew ?_ | with_reducible refine Gr.trans ?_ (by assumption))) <;> (first | (simp; done) | (simp; omega) | omega)), Gr.keep (by (repeat' (first | with_reducible exact Gr.refl _ | with_reducible refine Gr.set ?_ _ ?_ _ | with_reducible refine Gr.alloc ?_ | with_reducible refine Gr.drew ?_ | with_reducible refine Gr.trans ?_ (by assumption))) <;> (first | (simp; done) | (simp; omega) | omega)) d0, Gr.keep (by (repeat' (first | with_reducible exact Gr.refl _ | with_reducible refine Gr.set ?_ _ ?_ _ | with_reducible refine Gr.alloc ?_ | with_reducible refine Gr.drew ?_ | with_reducible refine Gr.trans ?_ (by assumption))) <;> (first | (simp; done) | (simp; omega) | omega)) d1⟩))
      ((first
        | (go_at_call 16; refine (HC.out _ (G0.out.trans (by (repeat' (first | with_reducible exact Gr.refl _ | with_reducible refine Gr.set ?_ _ ?_ _ | with_reducible refine Gr.alloc ?_ | with_reducible refine Gr.drew ?_ | with_reducible refine Gr.trans ?_ (by assumption))) <;> (first | (simp; done) | (simp; omega) | omega)))).mono ?_; rintro e wn ⟨v, rfl, ho, hgn⟩; have hbz := ((Bx2.new w0 (.int .i64 0) (.slice none 0 0) 24 _ rfl).gr (Gr.refl _).drew).gr hgn; obtain ⟨z0, z1, zf0, zf1, z6⟩ := hbz; obtain ⟨a2, c2, rfl, hc2, hL2, hn2, hb2⟩ := own_intsN ho)
        | (go_at_call 16; refine (HC.out _ (G0.out.trans (by (repeat' (first | with_reducible exact Gr.refl _ | with_reducible refine Gr.set ?_ _ ?_ _ | with_reducible refine Gr.alloc ?_ | with_reducible refine Gr.drew ?_ | with_reducible refine Gr.trans ?_ (by assumption))) <;> (first | (simp; done) | (simp; omega) | omega)))).mono ?_; rintro e wn ⟨v, rfl, ho, hgn⟩; obtain ⟨a2, c2, rfl, hc2, hL2, hn2, hb2⟩ := own_intsN ho)))
    · go_wp2_with fail
      go_meet
      exact ali_last ((Gr.refl w0).drew.trans hgn) (HW.out _ _ _ hL2 hc2 hn2) hb2 _
    · go_wp2_with fail
      go_meet
      exact ali_first (Nat.le_refl _) ((Gr.refl w0).alloc.drew.trans hgn) ⟨z0, z1, zf0, zf1, z6⟩ (HW.out _ _ _ hL2 hc2 hn2) (fun a e => by have := hb2 a e; simp at this; omega)
  case rest =>
    obtain ⟨wp, rfl⟩ : ∃ x, x = wc := ⟨_, rfl⟩
    obtain ⟨g, a1, c1, rfl, hb⟩ := hcut
    have HB := Lib.hid hb
    have hglt := hb.bx.lt
    have hglo := hb.lo
    clear hb d0 d1 HC HW
    go_wp2
    go_loopw [8, 22] (fun c i wr => ∃ (k : Nat) (n : Int) (V : Wd) (a1 : Option Addr) (c1 : Nat), k ≤ l.length ∧ i = .int .i64 (k : Int) ∧ c = .int .i64 n ∧ 0 ≤ n ∧ n ≤ k ∧ Wn.allF W 0 l = Wn.allF V n (l.drop k) ∧ WbAt w0 wr g a1 c1 V) (fun _ i _ => l.length - (intOf i).toNat)
    case atStart => exact ⟨0, 0, W, a1, c1, Nat.zero_le _, rfl, rfl, by omega, by omega, rfl, HB.out⟩
    case round =>
      obtain ⟨k, n, V, a1, c1, hk, rfl, rfl, hn0, hn1, heq, hb⟩ := hrel
      have HB := Lib.hid hb
      obtain ⟨c0, cc1, f0, f1, hgl⟩ := hb.bx
      have HG := Lib.hid (G0.out.trans hb.gr)
      by_cases hlt : k < l.length
      · obtain ⟨b, off, rfl, hbl, hc⟩ := HL.out k hlt
        have hc := HG.out.keep hc
        have HT := Lib.hid (take_any V l[k] a1 c1 wr hb.wd)
        rw [List.drop_eq_getElem_cons hlt] at heq
        have HE := Lib.hid heq
        clear heq hb
        generalize l[k] = q at *
        have HU : Hid (Wn.allF V n (q :: l.drop (k + 1)) = if (Wn.take V q).2.2 = 0 then Wn.allF (Wn.take V q).1 (if (Wn.take V q).2.1 = true then n + 1 else n) (l.drop (k + 1)) else (⟨0, []⟩, 0, (Wn.take V q).2.2)) := rfl
        generalize Wn.take V q = T at *
        obtain ⟨T, fr, er⟩ := T
        simp only at *
        go_wp2_with fail
        refine HT.out.mono ?_
        rintro e w1 ⟨a3, c3, rfl, hw3, hn3, hg1⟩
        simp only at *
        have G1 := Lib.hid (HB.out.gr.trans hg1)
        have W3 := Lib.hid hw3
        have N3 := Lib.hid hn3
        obtain ⟨c0, cc1, f0, f1, hgl1⟩ := HB.out.bx.gr hg1
        have B1 := Lib.hid (HB.out.bx.gr hg1)
        have R1 := Lib.hid ((hRes.out.gr HB.out.gr).gr hg1)
        clear hw3 hn3 hg1 HT
        have NE : Hid (∀ a, a3 = some a → a.block ≠ g ∧ w0.heap.size ≤ a.block ∧ a.block < w1.heap.size) := fun a e => by have := N3.out a e; have := HB.out.gr.size; omega
        by_cases he : er = 0
        · subst he
          rw [if_pos rfl] at HU
          cases fr with
          | true =>
            rw [if_pos rfl] at HU
            go_wp2
            go_roundw
            case rel => exact ⟨k + 1, n + 1, T, a3, c3, by omega, by go_num, by go_num, by omega, by omega, by rw [HE.out, HU.out], (wb_put hglo G1.out B1.out W3.out NE.out).up (Gr.refl _).alloc⟩
            case measure => simp [intOf]; omega
          | false =>
            rw [if_neg (by simp)] at HU
            go_wp2
            go_roundw
            case rel => exact ⟨k + 1, n, T, a3, c3, by omega, by go_num, rfl, by omega, by omega, by rw [HE.out, HU.out], (wb_put hglo G1.out B1.out W3.out NE.out).up (Gr.refl _).alloc⟩
            case measure => simp [intOf]; omega
        · rw [if_neg he] at HU
          have heb : (er != 0) = true := by rw [bne_iff_ne]; exact he
          obtain ⟨r0, r1, s0, s1, hrl⟩ := R1.out
          have hwl := HG.out.size
          clear he
          go_wp2
          exact bodyPost_ret (v := .tuple #[wdV 0 none 0 0, .int .i64 0, .int .i64 er]) (by simp [results, Try.results15, go_sem, *]) rfl (by
            rw [HE.out, HU.out]
            exact ⟨none, 0, rfl, wd_zero _, (fun a e => by cases e), (gr_set2 (G0.out.trans G1.out) _ (by omega) _ _).alloc⟩)
      · rw [List.drop_eq_nil_of_le (by omega)] at heq
        have HE : Hid (Wn.allF W 0 l = (V, n, 0)) := heq
        obtain ⟨r0, r1, s0, s1, hrl⟩ := hRes.out.gr hb.gr
        have NL : Hid (∀ a, a1 = some a → w.heap.size + 2 ≤ a.block ∧ a.block < wr.heap.size) := fun a e => by have := hb.ne a e; have := hRes.out.lt; omega
        clear heq hb
        go_wp2
        exact bodyPost_ret (v := .tuple #[wdV V.low a1 V.seen.length c1, .int .i64 n, .int .i64 0]) (by simp [results, Try.results15, go_sem, *]) rfl (by
          rw [HE.out]
          refine ⟨a1, c1, rfl, ⟨(HB.out.wd.row.set _ _ (fun a e => by have := NL.out a e; simp; omega)).set _ _ (fun a e => by have := NL.out a e; simp; omega), HB.out.wd.fits, HB.out.wd.len, HB.out.wd.non, HB.out.wd.lo0, HB.out.wd.lo1⟩, (fun a e => by have := NL.out a e; simp; omega), gr_set2 HG.out _ (by omega) _ _⟩)
end Go.Proofs.Ytdgjgpcfpkpnlaa
