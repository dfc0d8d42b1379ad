
/- wheel: Skip. -/
import Derived.Test.YtmgiiofjlgchfaaDoorWhL
namespace Go.Proofs.YtmgiiofjlgchfaaDoor
open Go.RowKit Go.Maps Go.Sort
open Wh (Tm Sl ks hasK atK del ins put dig whl Inv tlt Up trn upto past)

def SkR (w w' : World) (b m x : Nat) (L : List Tm) (V : Vl) (e : Ending) : Prop :=
  ∃ v S' V', e = .returned (.tuple #[v, .int .i64 0]) ∧ SkI w b m L V w' x S' V' v
theorem sk_own {w : World} {v : Value} {l : List Tm} (h : w.ownsRow 0 61 2 v l.length (l.flatMap tmf)) : (v = .slice none 0 0 ∧ l = []) ∨ ∃ g cap, v = .slice (some ⟨g, 0, none⟩) l.length cap ∧ ∀ j u, (l.flatMap tmf)[j]? = some u → w.cell? ((⟨g, 0, none⟩ : Addr).add j) = some u := by
  have hc := fun g (hg : v.ownBlock = some g) => h.cells hg
  obtain ⟨_, ⟨rfl, h1⟩ | ⟨g, cap, cur, rfl, _⟩⟩ := h
  · exact Or.inl ⟨rfl, List.length_eq_zero_iff.1 h1⟩
  · exact Or.inr ⟨g, cap, rfl, hc g rfl⟩
theorem tmf_flat_one (l : List Tm) : ∀ u ∈ l.flatMap tmf, u.oneCell' = true := by
  intro u hu
  obtain ⟨x, _, hx⟩ := List.mem_flatMap.1 hu
  exact tmf_one x u hx
set_option maxHeartbeats 2000000 in
set_option maxRecDepth 100000 in
theorem skip_arg {b m t : Nat} {L : List Tm} {S : Sl} {V : Vl} {w : World} (h : WAt w b m t L S V) (n : Int) (hn : n < 0 ∨ 100000 < n) :
    Calls Tryd.prog 19 #[ptr b, .int .i64 n] w fun e w' => e = .returned (.tuple #[.slice none 0 0, .int .i64 2]) ∧ w' = w := by
  have hN := isNone_any h
  clear h
  rcases hn with hn | hn
  · go_enter Tryd.func19, Tryd.ntmps19
    go_wp2_with (go_at_call 26; refine hN.mono ?_; rintro e w' ⟨rfl, hw⟩; obtain rfl := hw.symm; clear hw)
    go_ret2
    exact ⟨rfl, rfl⟩
  · have hn' : ¬ n < 0 := by omega
    go_enter Tryd.func19, Tryd.ntmps19
    go_wp2_with (go_at_call 26; refine hN.mono ?_; rintro e w' ⟨rfl, hw⟩; obtain rfl := hw.symm; clear hw)
    go_ret2
    exact ⟨rfl, rfl⟩
set_option maxHeartbeats 8000000 in
set_option maxRecDepth 100000 in
theorem skip_any {b m t n E : Nat} {L : List Tm} {S : Sl} {V : Vl} {w : World} (h : WAt w b m t L S V) (hi : Inv t L S) (hn : n ≤ 100000) (hT : Tb w) (ho : ¬ own b m V 1) (hE : E = min (t + n) 1000000000) :
    Calls Tryd.prog 19 #[ptr b, .int .i64 (n : Int)] w fun e w' => SkR w w' b m E L V e := by
  have hN := isNone_any h
  have hnw := h.now
  have ht := hi.ok.time
  have HU : Hid (Up L ∧ L.length ≤ 200) := ⟨hi.ok.up, hi.ok.few⟩
  have HTb : Hid (Tb w) := hT
  have HOw : Hid (¬ own b m V 1) := ho
  have HS : Hid (SkI w b m L V w t S V (.slice none 0 0)) := SkI.start h hi
  have hn0 : ¬ (n : Int) < 0 := by omega
  have hn1 : ¬ (100000 : Int) < (n : Int) := by omega
  obtain ⟨s, hs⟩ : ∃ s, s = t + n := ⟨_, rfl⟩
  have hsum : (t : Int) + (n : Int) = (s : Int) := by omega
  have hmn : min (s : Int) 1000000000 = (E : Int) := by omega
  have htE : t ≤ E := by omega
  have hE9 : E ≤ 1000000000 := by omega
  obtain ⟨j0, hj0, hy0, hy1, hy2⟩ := info_parts infoTm
  clear h hi hT ho hs hE
  go_enter Tryd.func19, Tryd.ntmps19
  go_wp2_with (go_at_call 26; refine hN.mono ?_; rintro e w' ⟨rfl, hw⟩; obtain rfl := hw.symm; clear hw)
  clear hN hnw
  go_loopw [6] (fun v6 wr => ∃ (x : Nat) (S1 : Sl) (V1 : Vl), t ≤ x ∧ x ≤ E ∧ SkI w b m L V wr x S1 V1 v6) (fun _ wr => E - nowOf (wr.cell? ⟨b, 0, none⟩))
  case atStart => exact ⟨t, S, V, Nat.le_refl _, htE, HS.out⟩
  case round =>
    obtain ⟨x, S1, V1, htx, hxE, hI⟩ := hrel
    have HI : Hid (SkI w b m L V wr x S1 V1 u6) := hI
    have hnw := hI.wa.now
    have hNx := next_any hI.wa hI.iv
    clear hI HS
    by_cases hlt : x < E
    · have hlt' : (x : Int) < (E : Int) := by omega
      go_wp2_with fail
      refine hNx.mono ?_
      rintro e wn ⟨hw, n1, rfl, q1, q2, q3⟩
      obtain rfl := hw.symm
      obtain ⟨y, hy⟩ : ∃ y, y = min n1 E := ⟨_, rfl⟩
      have hmin : min (n1 : Int) (E : Int) = (y : Int) := by omega
      have hxy : x < y := by omega
      have hyE : y ≤ E := by omega
      have HQ3 : Hid (∀ z ∈ past L x, y ≤ trn x z.2) := fun z hz => by have := q3 z hz; omega
      clear hw q3 hNx hnw hy
      obtain ⟨hwc, htc⟩ := HI.out.come y HTb.out HOw.out
      have HC : Hid (Calls Tryd.prog 31 #[ptr b] (wr.setCell ⟨b, 0, none⟩ (.int .i64 (y : Int))) fun e w' => ComR (wr.setCell ⟨b, 0, none⟩ (.int .i64 (y : Int))) w' b m y (past L x) V1 e) := come_any hwc HI.out.iv hxy (by omega) HQ3.out htc
      have HB : Hid (∀ w2 e, ComR (wr.setCell ⟨b, 0, none⟩ (.int .i64 (y : Int))) w2 b m y (past L x) V1 e → ∃ v2 S2 V2, e = .returned v2 ∧ SkJ w b m L V w2 x y S2 V2 u6 v2) := fun w2 e hc => HI.out.behind HU.out.1 hxy HQ3.out hc
      have hnw := HI.out.wa.now
      have hfz := HI.out.wa.fz 0 (by omega)
      clear hwc htc
      go_wp2_with fail
      refine HC.out.mono ?_
      intro e w2 hc2
      obtain ⟨v2, S2, V2, rfl, hJ⟩ := HB.out w2 e hc2
      have HJ : Hid (SkJ w b m L V w2 x y S2 V2 u6 v2) := hJ
      have hlu : (upto L x).length ≤ 200 := Nat.le_trans (List.length_filter_le _ _) HU.out.2
      have hld : (Wh.due (past L x) y).length ≤ 200 := Nat.le_trans (Nat.le_trans (List.length_filter_le _ _) (List.length_filter_le _ _)) HU.out.2
      have hws : w.heap.size ≤ w2.heap.size := HJ.out.tn.size
      rcases sk_own HJ.out.row with ⟨rfl, hnil⟩ | ⟨gb, cp, rfl, hcs⟩
      · have HI3 : Hid (SkI w b m L V w2 y S2 V2 u6) := HJ.out.none hnil
        have HTr := Lib.hid HJ.out.tr
        clear hJ hc2 HC HB hnil hlu hld hws
        go_wp2_with (first
          | (at_builtin; refine wpList_append_own_none rfl _ _ 36 rfl w.heap.size 61 j0 2 Tryd.underlying36 hj0 _ _ _ rfl HTr.out rfl ?_)
          | go_in)
        go_roundw
        case rel => exact ⟨y, S2, V2, by omega, by omega, HI3.out⟩
        case measure => rw [HI.out.now, HI3.out.now]; omega
      · have HCs := Lib.hid hcs
        have HTr := Lib.hid HJ.out.tr
        clear hJ hc2 HC HB hcs
        obtain ⟨dl, HDl⟩ : ∃ dl, Hid (dl = Wh.due (past L x) y) := ⟨_, rfl⟩
        rw [← HDl.out] at hld HCs ⊢
        have hfl := flat_len tmf_len dl
        go_wp2_with (first
          | (at_builtin; refine wpList_append_own_at _ rfl _ _ 36 rfl w.heap.size 61 j0 (.agg #[.string ⟨#[]⟩, .int .i64 0]) 2 24 Tryd.underlying36 hj0 hy0 hy1 hy2 rfl (by decide) _ _ _ rfl HTr.out ⟨gb, 0, none⟩ dl.length cp (dl.flatMap tmf) rfl hfl HCs.out (tmf_flat_one dl) (by unfold maxLen; omega) (by omega) (by omega) ?_; intro v' w3 hown hgrow hnil hloc
             have HI3 : Hid (SkI w b m L V w3 y S2 V2 v') := HJ.out.next (by rw [← HDl.out]; exact hown) hgrow hloc
             clear hown hgrow hnil hloc HTr HCs)
          | go_in)
        go_roundw
        case rel => exact ⟨y, S2, V2, by omega, by omega, HI3.out⟩
        case measure => rw [HI.out.now, HI3.out.now]; omega
    · have hlt' : ¬ (x : Int) < (E : Int) := by omega
      obtain rfl : x = E := by omega
      have HF : Hid (SkR w wr b m x L V (.returned (.tuple #[u6, .int .i64 0]))) := ⟨u6, S1, V1, rfl, HI.out⟩
      clear hNx hlt
      go_wp2
      go_ret2
      exact HF.out
end Go.Proofs.YtmgiiofjlgchfaaDoor
