/- For every first body, bodies and turns the law WalBack answers true: without falls an opening tells all bodies in order, and changes nothing; opened twice a log is the same, and goes on. -/
import Derived.Test.YtojmhhmpmpbpfaaDoorGA
import Derived.Test.YtojmhhmpmpbpfaaDoorGY
import Derived.Test.YtojmhhmpmpbpfaaDoorGZ
import Derived.Test.YtojmhhmpmpbpfaaDoorGT
import Derived.Deep.CutRange
import Derived.SevenTiedAt
namespace Go.Proofs.YtojmhhmpmpbpfaaDoor
open Go.ChangeShapes Go.WideShapes Go.ChangeAt Go.RowKit
open Go.ChangeMaps (open_string shut_string)
open Dk (Fl Fo St Ok used)
variable {u w w' w2 : World} {b m g r : Nat} {s : St} {l : Wl.Lg} {h : Wl.Bo}

/- what the statement itself counts -/
def bkN (d : ByteArray) (L : List ByteArray) (k : Nat) : Nat := d.size + ((L.take k).map (fun x => min x.size 50000 + 30)).sum
theorem bkN_zero (d : ByteArray) (L : List ByteArray) : bkN d L 0 = d.size := by simp [bkN]
theorem bkN_succ (d : ByteArray) (L : List ByteArray) {k : Nat} (h : k < L.length) : bkN d L (k + 1) = bkN d L k + (min L[k].size 50000 + 30) := by
  unfold bkN
  rw [List.take_succ_eq_append_getElem h, List.map_append, List.sum_append]
  simp
  omega
theorem bkN_le (d : ByteArray) (L : List ByteArray) (k : Nat) : bkN d L k ≤ bkN d L L.length := by
  unfold bkN
  have e : L.take L.length = L.take k ++ (L.drop k) := by rw [List.take_length, List.take_append_drop]
  rw [e, List.map_append, List.sum_append]
  omega
theorem strs_blk {ad : Option Addr} {L : List ByteArray} (h : StrsAt w ad L) (hne : L ≠ []) : ∀ p, ad = some p → p.block < w.heap.size := by
  intro p e
  obtain ⟨x, off, e2, hb, _⟩ := h 0 (by cases L with | nil => exact absurd rfl hne | cons _ _ => simp)
  rw [e] at e2
  cases e2
  exact hb
theorem map_ne (h : Wl.Bo) (hn : h ≠ []) : h.map mkT ≠ [] := by cases h with | nil => exact absurd rfl hn | cons _ _ => simp
theorem mkT_bo (d : ByteArray) : mkT d.data.toList = d := by simp [mkT]
theorem same_eq (L : List ByteArray) (a1 a2 : Option Addr) (c1 c2 : Nat) (w : World) (hn : L.length ≤ 9223372036854775807) (h1 : StrsAt w a1 L) (h2 : StrsAt w a2 L) :
    Calls Tryd.prog 14 #[.slice a1 L.length c1, .slice a2 L.length c2] w fun e w' => e = .returned (.bool true) ∧ Gr w w' := by
  refine (sameG_any L L a1 a2 c1 c2 w hn hn h1 h2).mono ?_
  rintro e w' ⟨rfl, k⟩
  exact ⟨by simp, k⟩
/- the bodies' row, off the disk and the log -/
structure Hv (w : World) (b m g : Nat) (ad : Option Addr) (h : Wl.Bo) : Prop where
  ro : StrsAt w ad (h.map mkT)
  of : ∀ p, ad = some p → p.block ≠ b ∧ p.block ≠ m ∧ p.block ≠ g
theorem Hv.t3 {ad : Option Addr} (k : Hv w b m g ad h) (t : T3 w w' b m g) : Hv w' b m g ad h := ⟨T3.strs k.ro t k.of, k.of⟩
theorem Hv.td {ad : Option Addr} (k : Hv w b m g ad h) (t : Td w w' b m) : Hv w' b m g ad h := k.t3 (t.t3 g)
theorem Hv.gr {ad : Option Addr} (k : Hv w b m g ad h) (t : Gr w w') : Hv w' b m g ad h := ⟨k.ro.gr t, k.of⟩
/- a round's state -/
structure Bk (u w : World) (b m g : Nat) (s : St) (l : Wl.Lg) (h : Wl.Bo) (N : Int) (ad : Option Addr) (c n : Nat) : Prop where
  z : Lz u w b m g s l h 200000 N
  n0 : 1 ≤ N
  n1 : N ≤ 1 + (n : Int)
  ct : (Sl.cat 3 h).length ≤ c + 20
  hl : h.length ≤ n + 1
  hv : Hv w b m g ad h
theorem Bk.up {N : Int} {ad : Option Addr} {c n : Nat} (k : Bk u w b m g s l h N ad c n) (q : Gr w w') : Bk u w' b m g s l h N ad c n := ⟨k.z.up q, k.n0, k.n1, k.ct, k.hl, k.hv.gr q⟩
theorem bk_no {N : Int} {ad : Option Addr} {c c' n : Nat} (k : Bk u w b m g s l h N ad c n) (z : Lz u w' b m g s l h 200000 N) (t : T3 w w' b m g) (hc : c ≤ c') : Bk u w' b m g s l h N ad c' (n + 1) :=
  ⟨z, k.n0, by have := k.n1; omega, by have := k.ct; omega, by have := k.hl; omega, k.hv.t3 t⟩
theorem bk_turn {N : Int} {ad : Option Addr} {c c' n : Nat} {s' : St} {l' : Wl.Lg} {y : ByteArray} (k : Bk u w b m g s l h N ad c n) (z : Lz u w' b m g s' l' [y.data.toList] 200000 (N + 1)) (hy : y.size ≤ 30000) (hc : y.size ≤ c') : Bk u (w'.alloc (.cells #[.string y] 9)) b m g s' l' [y.data.toList] (N + 1) (some ⟨w'.heap.size, 0, none⟩) c' (n + 1) := by
  have h1 := z.lv.nw.blt
  have h2 := z.lv.lg.lt
  have h3 := cat_new y hy
  have hm : [y.data.toList].map mkT = [y] := by simp [mkT]
  refine ⟨z.up (Gr.refl _).alloc, by have := k.n0; omega, by have := k.n1; omega, by omega, by simp, ⟨by rw [hm]; exact own_lit1 w' y, fun p e => ?_⟩⟩
  cases e
  exact ⟨by show w'.heap.size ≠ b; omega, by show w'.heap.size ≠ m; omega, by show w'.heap.size ≠ g; omega⟩
theorem bk_app {N : Int} {ad ab : Option Addr} {c c' n : Nat} {s' : St} {l' : Wl.Lg} {y : ByteArray} (k : Bk u w b m g s l h N ad c n) (z : Lz u w' b m g s' l' (h ++ [y.data.toList]) 200000 N) (hy : y.size ≤ 30000) (hc : c + y.size + 20 ≤ c') (q : Gr w' w2) (ro : StrsAt w2 ab (h.map mkT ++ [y])) (fr : ∀ p, ab = some p → w'.heap.size ≤ p.block) : Bk u w2 b m g s' l' (h ++ [y.data.toList]) N ab c' (n + 1) := by
  have h1 := z.lv.nw.blt
  have h2 := z.lv.lg.lt
  have h3 := cat_more h y hy
  have h4 := k.ct
  have h5 := k.hl
  have hm : (h ++ [y.data.toList]).map mkT = h.map mkT ++ [y] := by simp [mkT]
  refine ⟨z.up q, k.n0, by have := k.n1; omega, by omega, by simp; omega, ⟨by rw [hm]; exact ro, fun p e => ?_⟩⟩
  have := fr p e
  exact ⟨by omega, by omega, by omega⟩
theorem bo_len (L : List (List UInt8)) : (L.map mkT).length = L.length := by simp
set_option maxHeartbeats 16000000 in
set_option maxRecDepth 100000 in
theorem walBack_walk (d : ByteArray) (L : List ByteArray) (ad : Option Addr) (cap : Nat) (T : List Bool) (ad2 : Option Addr) (cap2 : Nat) (w : World) (hT : Tab w) (hd : d.size ≤ 140737488355328) (hL : StrsAt w ad L) (hn : L.length ≤ 9223372036854775807) (hz : ∀ s ∈ L, s.size ≤ 9223372036854775807) (hB : BosAt w ad2 T) (hn2 : T.length ≤ 9223372036854775807) :
    Calls Tryd.prog 4 #[.string d, .slice ad L.length cap, .slice ad2 T.length cap2] w fun e w' => e = .returned (.bool true) ∧ Gr w w' := by
  have HA : Hid (∀ w', Gr w w' → Calls Tryd.prog 10 #[] w' fun e w2 => e = .returned (.bool true) ∧ Gr w' w2) := fun w' g => awake17_any w' (hT.gr g)
  by_cases h1 : ¬ d.size ≤ 30000
  · have h1b : (30000 : Int) < (d.size : Int) := by omega
    have HG : Hid (Gr w w) := Gr.refl w
    clear hT hL hz hB
    go_enter Tryd.func4, Tryd.ntmps4
    go_wp2_with fail
    refine (HA.out _ HG.out).mono ?_
    rintro e w2 ⟨rfl, hg2⟩
    have HG2 := Lib.hid hg2
    clear hg2
    go_wp2
    go_ret
    exact ⟨rfl, HG2.out⟩
  by_cases h2 : ¬ L.length ≤ 60
  · have h1b : ¬ (30000 : Int) < (d.size : Int) := by omega
    have h2b : (60 : Int) < (L.length : Int) := by omega
    have HG : Hid (Gr w w) := Gr.refl w
    clear hT hL hz hB
    go_enter Tryd.func4, Tryd.ntmps4
    go_wp2_with fail
    refine (HA.out _ HG.out).mono ?_
    rintro e w2 ⟨rfl, hg2⟩
    have HG2 := Lib.hid hg2
    clear hg2
    go_wp2
    go_ret
    exact ⟨rfl, HG2.out⟩
  by_cases h3 : ¬ T.length ≤ 60
  · have h1b : ¬ (30000 : Int) < (d.size : Int) := by omega
    have h2b : ¬ (60 : Int) < (L.length : Int) := by omega
    have h3b : (60 : Int) < (T.length : Int) := by omega
    have HG : Hid (Gr w w) := Gr.refl w
    clear hT hL hz hB
    go_enter Tryd.func4, Tryd.ntmps4
    go_wp2_with fail
    refine (HA.out _ HG.out).mono ?_
    rintro e w2 ⟨rfl, hg2⟩
    have HG2 := Lib.hid hg2
    clear hg2
    go_wp2
    go_ret
    exact ⟨rfl, HG2.out⟩
  replace h1 := Classical.not_not.1 h1
  replace h2 := Classical.not_not.1 h2
  replace h3 := Classical.not_not.1 h3
  have h1b : ¬ (30000 : Int) < (d.size : Int) := by omega
  have h2b : ¬ (60 : Int) < (L.length : Int) := by omega
  have h3b : ¬ (60 : Int) < (T.length : Int) := by omega
  have HL := Lib.hid hL
  have HZ := Lib.hid hz
  have HT := Lib.hid hT
  have HB := Lib.hid hB
  have HN := new_any 200000 w (by omega)
  have hm : mayL 200000 [] = true := by decide
  unfold LdR at HN
  simp only [if_pos hm] at HN
  have HN := Lib.hid HN
  have HO : Hid (∀ w1 b m, New w w1 b m (Dk.new 200000 []) → Calls Tryd.prog 9 #[ptr b, .string d] w1 fun e w' => ∃ g ab cb s l, e = .returned (.tuple #[ptr g, .slice ab 1 cb, .int .i64 0]) ∧ Og w w1 w' b m g s l [d.data.toList] ab ∧ Lz w w' b m g s l [d.data.toList] 200000 1) := fun w1 b m k => z_first (by omega) (by omega) k hT d h1 (by omega)
  clear hT hL hz hB hm
  go_enter Tryd.func4, Tryd.ntmps4
  go_wp2
  go_loopw [8, 7] (fun i n wr => ∃ k : Nat, k ≤ L.length ∧ i = .int .i64 (k : Int) ∧ n = .int .i64 (bkN d L k : Int) ∧ bkN d L k ≤ 90000 ∧ wr = w) (fun i _ _ => L.length - (intOf i).toNat)
  case atStart => exact ⟨0, by omega, rfl, by rw [bkN_zero], by rw [bkN_zero]; omega, rfl⟩
  case round =>
    obtain ⟨k, hk, rfl, rfl, hbk, hwr⟩ := hrel
    obtain rfl := hwr.symm
    by_cases hlt : k < L.length
    · obtain ⟨x, off, rfl, hxb, hxc⟩ := HL.out k hlt
      have hzz := HZ.out _ (List.getElem_mem hlt)
      have HS := Lib.hid (bkN_succ d L hlt)
      generalize bkN d L k = c at *
      generalize L[k] = y at *
      by_cases hbig : 90000 < c + (min y.size 50000 + 30)
      · have hbi : (90000 : Int) < (c : Int) + (min (y.size : Int) 50000 + 30) := by omega
        clear HS
        go_wp2_with fail
        refine (HA.out _ (Gr.refl _)).mono ?_
        rintro e w2 ⟨rfl, hg2⟩
        have HG2 := Lib.hid hg2
        clear hg2
        go_wp2
        go_ret
        exact ⟨rfl, HG2.out⟩
      · have hbi : ¬ (90000 : Int) < (c : Int) + (min (y.size : Int) 50000 + 30) := by omega
        have HS2 : Hid (((bkN d L (k + 1) : Nat) : Int) = (c : Int) + (min (y.size : Int) 50000 + 30) ∧ bkN d L (k + 1) ≤ 90000) := by
          show _ ∧ _
          rw [HS.out]
          constructor <;> omega
        clear HS
        go_wp2
        go_roundw
        case rel => exact ⟨k + 1, by omega, by go_num, by rw [HS2.out.1], HS2.out.2, by trivial⟩
        case measure => simp [intOf]; omega
    · obtain rfl : k = L.length := by omega
      have HBk := Lib.hid hbk
      clear hbk
      go_wp2_with fail
      refine HN.out.mono ?_
      rintro e w1 ⟨b, m, rfl, hn1⟩
      have HN1 := Lib.hid hn1
      have hbm := hn1.blt
      clear hn1
      go_wp2_with fail
      refine (HO.out _ _ _ HN1.out).mono ?_
      rintro e w2 ⟨g, ab, cb, s, l, rfl, ho, hz⟩
      have HK0 : Hid (Bk w w2 b m g s l [d.data.toList] 1 ab (bkN d L 0) 0) := by
        have hs := ho.td.size
        have hc := cat_new d h1
        exact ⟨hz, Int.le_refl _, by simp, by rw [bkN_zero]; exact hc, by simp, ⟨ho.ro, fun p e => by have h5 := ho.fr p e; have h6 := ho.ng (by simp) p e; exact ⟨by omega, by omega, h6⟩⟩⟩
      clear ho hz HO HN HN1
      go_wp2
      go_loopw [14, 11, 12] (fun i lv hv wq => ∃ (k g : Nat) (s : St) (l : Wl.Lg) (h : Wl.Bo) (N : Int) (a3 : Option Addr) (c3 : Nat), k ≤ L.length ∧ i = .int .i64 (k : Int) ∧ lv = ptr g ∧ hv = .slice a3 h.length c3 ∧ Bk w wq b m g s l h N a3 (bkN d L k) k) (fun i _ _ _ => L.length - (intOf i).toNat)
      case atStart => exact ⟨0, g, s, l, _, 1, ab, cb, by omega, rfl, rfl, rfl, HK0.out⟩
      case round =>
        clear HK0
        obtain ⟨k, g, s, l, h, N, a3, c3, hk, rfl, rfl, rfl, hK⟩ := hrel
        have HK := Lib.hid hK
        clear hK
        by_cases hlt : k < L.length
        · obtain ⟨x, off, hade, hxb, hxc⟩ := HL.out k hlt
          have HGw := Lib.hid HK.out.z.lv.nw.gr
          have hyc := HGw.out.keep hxc
          have hys := HZ.out _ (List.getElem_mem hlt)
          have HS : Hid (bkN d L (k + 1) = bkN d L k + (min L[k].size 50000 + 30) ∧ bkN d L (k + 1) ≤ 90000) := ⟨bkN_succ d L hlt, Nat.le_trans (bkN_le d L (k + 1)) HBk.out⟩
          obtain ⟨tb, hfl⟩ : ∃ tb : Bool, (k < T.length ∧ ∃ x2 off2, ad2 = some ⟨x2, off2, none⟩ ∧ wr.cell? ⟨x2, off2 + k, none⟩ = some (.bool tb)) ∨ (¬ k < T.length ∧ tb = false) := by
            by_cases ht : k < T.length
            · obtain ⟨x2, off2, e2, _, hc2⟩ := HB.out.at_ k ht
              exact ⟨T[k], Or.inl ⟨ht, x2, off2, e2, HGw.out.keep hc2⟩⟩
            · exact ⟨false, Or.inr ⟨ht, rfl⟩⟩
          subst hade
          have hki : (k : Int) < (L.length : Int) := by omega
          have HYc : Hid (∀ w', Gr w w' → w'.cell? ⟨x, off + k, none⟩ = some (.string L[k])) := fun w' q => q.keep hxc
          clear hxc hxb
          generalize hyL : L[k] = y at *
          go_upto_region 18 with fail
          go_cut [89] from 74 to 189 (fun v wx => v = .bool tb ∧ wx = wr)
          case first =>
            rcases hfl with ⟨ht, x2, off2, e2, hc2⟩ | ⟨ht, rfl⟩
            · have htb : (k : Int) < (T.length : Int) := by omega
              subst e2
              go_wp2_with fail
              go_meet
              exact ⟨rfl, rfl⟩
            · have htb : ¬ (k : Int) < (T.length : Int) := by omega
              go_wp2_with fail
              go_meet
              exact ⟨rfl, rfl⟩
          case rest =>
            obtain ⟨rfl, hwc⟩ := hcut
            obtain rfl := hwc.symm
            clear hfl
            go_upto_if 89 with fail
            go_cut [12, 15] from 74 to 189 (fun hv xv wx => ∃ (s' : St) (l' : Wl.Lg) (h' : Wl.Bo) (N' : Int) (a4 : Option Addr) (c4 : Nat) (ex : Int), hv = .slice a4 h'.length c4 ∧ xv = .int .i64 ex ∧ (ex = 0 ∨ (ex = 3 ∧ ¬ y.size ≤ 30000)) ∧ Bk w wx b m g s' l' h' N' a4 (bkN d L (k + 1)) (k + 1))
            case first =>
              have hct := HK.out.ct
              have hn0 := HK.out.n0
              have hn1 := HK.out.n1
              have hbs := HS.out
              cases tb with
              | true =>
                by_cases hy : y.size ≤ 30000
                · go_wp2_with fail
                  refine (z_turn HK.out.z HT.out y hy (by omega) (by omega)).mono ?_
                  rintro e w4 ⟨s4, l4, rfl, hz4, ht4⟩
                  have HZ4 := Lib.hid hz4
                  have hyc4 := HYc.out _ hz4.lv.nw.gr
                  clear hz4 ht4 hyc
                  go_wp2_with fail
                  go_meet
                  exact ⟨s4, l4, _, _, _, _, 0, rfl, rfl, Or.inl rfl, bk_turn HK.out HZ4.out hy (by omega)⟩
                · go_wp2_with fail
                  refine (z_turn_no HK.out.z HT.out y hy (by omega) hys).mono ?_
                  rintro e w4 ⟨rfl, hz4, ht4⟩
                  have HZ4 := Lib.hid hz4
                  have HT4 := Lib.hid ht4
                  clear hz4 ht4 hyc
                  go_wp2_with fail
                  go_meet
                  exact ⟨s, l, h, N, a3, c3, 3, rfl, rfl, Or.inr ⟨rfl, hy⟩, bk_no HK.out HZ4.out HT4.out (by omega)⟩
              | false =>
                by_cases hy : y.size ≤ 30000
                · go_wp2_with fail
                  refine (z_append HK.out.z HT.out y hy (by omega)).mono ?_
                  rintro e w4 ⟨s4, l4, rfl, hz4, ht4⟩
                  have HZ4 := Lib.hid hz4
                  have hyc4 := HYc.out _ hz4.lv.nw.gr
                  have HW4 : Hid (Calls Tryd.prog 12 #[.slice a3 h.length c3, .string y] w4 fun e w' => ∃ ab cb, e = .returned (.slice ab (h.length + 1) cb) ∧ StrsAt w' ab (h.map mkT ++ [y]) ∧ (∀ p, ab = some p → w4.heap.size ≤ p.block) ∧ Gr w4 w') := by
                    have hhl := HK.out.hl
                    have := with_any (h.map mkT) a3 c3 y w4 (HK.out.hv.t3 ht4).ro (map_ne h HK.out.z.re.gd.1) (by rw [bo_len]; omega)
                    rwa [bo_len] at this
                  clear hz4 ht4 hyc
                  go_wp2_with fail
                  refine HW4.out.mono ?_
                  rintro e w5 ⟨ab, cb, rfl, hro, hfr, hg5⟩
                  have HK5 := Lib.hid (bk_app (c' := bkN d L (k + 1)) HK.out HZ4.out hy (by omega) hg5 hro hfr)
                  have hll : (h ++ [y.data.toList]).length = h.length + 1 := by simp
                  clear hro hfr hg5 HW4
                  go_wp2_with fail
                  go_meet
                  exact ⟨s4, l4, _, N, ab, cb, 0, by rw [hll], rfl, Or.inl rfl, HK5.out⟩
                · go_wp2_with fail
                  refine (z_append_no HK.out.z HT.out y hy hys).mono ?_
                  rintro e w4 ⟨rfl, hz4, ht4⟩
                  have HZ4 := Lib.hid hz4
                  have HT4 := Lib.hid ht4
                  clear hz4 ht4 hyc
                  go_wp2_with fail
                  go_meet
                  exact ⟨s, l, h, N, a3, c3, 3, rfl, rfl, Or.inr ⟨rfl, hy⟩, bk_no HK.out HZ4.out HT4.out (by omega)⟩
            case rest =>
              obtain ⟨w4, hw4⟩ : ∃ x, x = wc := ⟨_, rfl⟩
              rw [← hw4] at hcut ⊢
              clear hw4 hyc HGw HK
              obtain ⟨s4, l4, h4, N4, a4, c4, ex, rfl, rfl, hex, hK4⟩ := hcut
              have HK4 := Lib.hid hK4
              have hyc4 := HYc.out _ hK4.z.lv.nw.gr
              clear hK4
              go_upto_region 25 with fail
              go_cut [126] from 74 to 189 (fun v wx => v = .bool false ∧ wx = w4)
              case first =>
                rcases hex with rfl | ⟨rfl, hy⟩
                · go_wp2_with fail
                  go_meet
                  exact ⟨rfl, rfl⟩
                · have hyb : ¬ (y.size : Int) ≤ 30000 := by omega
                  go_wp2_with fail
                  go_meet
                  exact ⟨rfl, rfl⟩
              case rest =>
                obtain ⟨rfl, hwc⟩ := hcut
                obtain rfl := hwc.symm
                clear hex hyc4
                have hbm4 := HK4.out.z.lv.nw.blt
                have h4n := HK4.out.z.re.gd.1
                have h4l := HK4.out.hl
                have HIm : Hid (∀ w', New w w' b m s4 → Calls Tryd.prog 13 #[ptr b] w' fun e w2 => ImR w' w2 s4.L e) := fun w' q => by
                  obtain ⟨A, hA⟩ := q.at_
                  exact image_any hA
                go_wp2_with fail
                refine (HIm.out _ HK4.out.z.lv.nw).mono ?_
                rintro e w5 ⟨ia, ic, rfl, hrow, hfr, hg5⟩
                have HK5 := Lib.hid (HK4.out.up hg5)
                have HRow5 := Lib.hid hrow
                have HFr5 : Hid (∀ p, ia = some p → p.block ≠ b ∧ p.block ≠ m) := fun p e => by have := hfr p e; exact ⟨by omega, by omega⟩
                have hs5 := hg5.size
                clear hrow hfr hg5 HK4
                go_wp2_with fail
                refine (z_open HK5.out.z HT.out ⟨#[111, 116, 104, 101, 114]⟩ (by decide)).mono ?_
                rintro e w6 ⟨g6, a6, c6, rfl, ho6, hz6, hy6⟩
                have HZ6 := Lib.hid hz6
                have HY6 := Lib.hid hy6
                have HHv6 := Lib.hid (HK5.out.hv.td ho6.td)
                have HRow6 := Lib.hid (Td.row ho6.td HRow5.out HFr5.out)
                have HBo6 := Lib.hid ho6.ro
                have HFb6 : Hid (∀ p, a6 = some p → p.block ≠ b ∧ p.block ≠ m) := fun p e => by have := ho6.fr p e; exact ⟨by omega, by omega⟩
                have hs6 := ho6.td.size
                clear ho6 hz6 hy6 HRow5
                go_wp2_with fail
                refine (z_open HZ6.out HT.out d hd).mono ?_
                rintro e w7 ⟨g7, a7, c7, rfl, ho7, hz7, hy7⟩
                have HZ7 := Lib.hid hz7
                have HY7 := Lib.hid hy7
                have HX7 : Hid (Lz w w7 b m g6 s4 l4 h4 200000 N4) := ⟨HY6.out.lv.far ⟨hz7.lv.nw.at_, ho7.td⟩, hz7.re, hz7.lf, hz7.rm, hz7.nn⟩
                have HHv7 := Lib.hid (HHv6.out.td ho7.td)
                have HRow7 := Lib.hid (Td.row ho7.td HRow6.out HFr5.out)
                have HBo7 := Lib.hid (Td.strs HBo6.out ho7.td HFb6.out)
                have HCo7 := Lib.hid ho7.ro
                have HBk7 : Hid (Bk w w7 b m g7 s4 l4 h4 N4 a4 (bkN d L (k + 1)) (k + 1)) := ⟨hy7, HK5.out.n0, HK5.out.n1, HK5.out.ct, HK5.out.hl, ⟨HHv7.out.ro, fun p e => by have h8 := HHv7.out.of p e; have h9 := strs_blk HHv6.out.ro (map_ne h4 h4n) p e; have h10 := ho7.gw; exact ⟨h8.1, h8.2.1, by omega⟩⟩⟩
                have HS1 : Hid (∀ w', Gr w7 w' → Calls Tryd.prog 14 #[.slice a6 h4.length c6, .slice a4 h4.length c4] w' fun e w2 => e = .returned (.bool true) ∧ Gr w' w2) := by
                  intro w' q
                  have := same_eq (h4.map mkT) a6 a4 c6 c4 w' (by rw [bo_len]; omega) (HBo7.out.gr q) (HHv7.out.ro.gr q)
                  rwa [bo_len] at this
                have HS2 : Hid (∀ w', Gr w7 w' → Calls Tryd.prog 14 #[.slice a7 h4.length c7, .slice a4 h4.length c4] w' fun e w2 => e = .returned (.bool true) ∧ Gr w' w2) := by
                  intro w' q
                  have := same_eq (h4.map mkT) a7 a4 c7 c4 w' (by rw [bo_len]; omega) (HCo7.out.gr q) (HHv7.out.ro.gr q)
                  rwa [bo_len] at this
                have h8l := hz7.lv.nw.ok.len
                have HRs : Hid (∀ w' a1 c1, RowAt flf w' a1 s4.L → Gr w7 w' → Calls Tryd.prog 15 #[.slice a1 s4.L.length c1, .slice ia s4.L.length ic] w' fun e w2 => e = .returned (.bool true) ∧ Gr w' w2) := fun w' a1 c1 h1 q => rsame_eq s4.L a1 ia c1 ic w' h1 (HRow7.out.gr q) (by omega)
                have HZs : Hid (∀ w', Gr w7 w' → Calls Tryd.prog 8 #[ptr g6] w' fun e w2 => e = .returned (.int .i64 l4.z) ∧ Gr w' w2) := fun w' q => z_size (HX7.out.up q)
                have HZt : Hid (∀ w', Gr w7 w' → Calls Tryd.prog 8 #[ptr g] w' fun e w2 => e = .returned (.int .i64 l4.z) ∧ Gr w' w2) := fun w' q => z_size (HZ7.out.up q)
                have HNs : Hid (∀ w', Gr w7 w' → Calls Tryd.prog 7 #[ptr g6] w' fun e w2 => e = .returned (.int .i64 N4) ∧ w2 = w') := fun w' q => z_num (HX7.out.up q)
                have HNt : Hid (∀ w', Gr w7 w' → Calls Tryd.prog 7 #[ptr g] w' fun e w2 => e = .returned (.int .i64 N4) ∧ w2 = w') := fun w' q => z_num (HZ7.out.up q)
                clear ho7 hz7 hy7 HZ6 HY6 HHv6 HHv7 HRow6 HRow7 HBo6 HBo7 HCo7 HX7 HK5
                generalize l4.z = zz at *
                have hzz : (zz == zz) = true := by simp
                have hnn : (N4 == N4) = true := by simp
                go_wp2_with fail
                refine (HS1.out _ (Gr.refl _)).mono ?_
                rintro e w8 ⟨rfl, hg8⟩
                have G8 := Lib.hid hg8
                clear hg8
                go_wp2_with fail
                refine (HS2.out _ G8.out).mono ?_
                rintro e w9 ⟨rfl, hg9⟩
                have G9 := Lib.hid (G8.out.trans hg9)
                clear hg9
                go_wp2_with fail
                refine (HIm.out _ (HZ7.out.lv.nw.up G9.out)).mono ?_
                rintro e wa ⟨ja, jc, rfl, hrowa, _, hga⟩
                have GA := Lib.hid (G9.out.trans hga)
                have HRa := Lib.hid hrowa
                clear hrowa hga
                go_wp2_with fail
                refine (HRs.out _ _ _ HRa.out GA.out).mono ?_
                rintro e wb ⟨rfl, hgb⟩
                have GB := Lib.hid (GA.out.trans hgb)
                clear hgb
                go_wp2_with fail
                refine (HZs.out _ GB.out).mono ?_
                rintro e wc ⟨rfl, hgc⟩
                have GC := Lib.hid (GB.out.trans hgc)
                clear hgc
                go_wp2_with fail
                refine (HZt.out _ GC.out).mono ?_
                rintro e wd ⟨rfl, hgd⟩
                have GD := Lib.hid (GC.out.trans hgd)
                clear hgd
                go_wp2_with (go_at_call 7; first
                  | (refine (HNs.out _ GD.out).mono ?_; rintro e w' ⟨rfl, hw⟩; obtain rfl := hw.symm; clear hw)
                  | (refine (HNt.out _ GD.out).mono ?_; rintro e w' ⟨rfl, hw⟩; obtain rfl := hw.symm; clear hw))
                have HBk8 := Lib.hid (HBk7.out.up GD.out)
                go_roundw
                case rel => exact ⟨k + 1, g7, s4, l4, h4, N4, a4, c4, by omega, by go_num, rfl, rfl, HBk8.out⟩
                case measure => simp [intOf]; omega
        · have HG := Lib.hid HK.out.z.lv.nw.gr
          clear HK
          go_wp2_with fail
          refine (HA.out _ HG.out).mono ?_
          rintro e w3 ⟨rfl, hg3⟩
          have HG3 := Lib.hid (HG.out.trans hg3)
          clear hg3
          go_wp2
          go_ret
          exact ⟨rfl, HG3.out⟩

set_option maxRecDepth 100000 in
theorem walBack_lifted (os : Os) (started : os.Started) (H : Type) (enc : TypeId × Value → H) :
    ReturnsInHanded {} Tryd.checked os 4 .any (fun w args => (Rows.walBackSpec.pre enc Tryd.prog Tryd.f4 [] false w args ∧ laidMetH Tryd.prog laidL w) ∧ sizedMet enc Tryd.prog Tryd.f4 (OpenSpec.ofChange Rows.walBackSpec) false w args)
      (Rows.walBackSpec.post enc Tryd.prog Tryd.f4 false true false false) := by
  refine returnsInHanded_of_change_and (C := Tryd.checked) (X := fun w _ => laidMetH Tryd.prog laidL w) (fun _ _ _ hh h => h.of_heap hh) own2 started (by kernel_rfl) Tryd.func4
    (ChangeSpec.witness_shaped (enc := enc) (C := Tryd.checked) (os := os) (X := fun w _ => laidMetH Tryd.prog laidL w) false (World.doorLaid Tryd.prog 400 os) #[.string ⟨#[]⟩, .slice none 0 0, .slice none 0 0] 8 rfl (World.shaped_of_RefB (by kernel_rfl) (by kernel_rfl)) (by kernel_rfl) (by kernel_rfl) (by kernel_rfl) (door_met os _)) ?_
  intro W base args ds gs before hval0 hW _ hsz0 hL _
  have hval : ∀ (j : Nat) t v, Tryd.f4.params[j]? = some t → args[j]? = some v → Value.okWide Tryd.prog W .any base t v := hval0
  have hsz : (DataW.weightsEach Tryd.prog (Tryd.f4.params.toList ++ Rows.walBackSpec.plain.varTypes Tryd.prog) (ds ++ gs)).all (· ≤ reachBytes) = true := hsz0
  have hW' := hW
  obtain ⟨p, q, hA0, hV, rfl, hfz, hnd⟩ := hW
  have hA : DataW.TrodAll enc Tryd.prog W 0 (fun _ => true) true Tryd.f4.params.toList args.toList ds p := hA0
  rw [Tryd.params4] at hA hval hsz
  obtain ⟨v0, v1, v2, d0, d1, d2, p0, p1, p2, rfl, rfl, rfl, h0, h1, h2⟩ := trodAll_three hA
  obtain ⟨rfl, rfl⟩ := trodVars_none hV
  have k1 := h1
  have lt1 : ∀ x ∈ p1, x.block < W.heap.size := by obtain ⟨m, hm⟩ := k1; exact DataW.trod_lt m _ _ _ hm
  have k2 := h2
  have lt2 : ∀ x ∈ p2, x.block < W.heap.size := by obtain ⟨m, hm⟩ := k2; exact DataW.trod_lt m _ _ _ hm
  obtain ⟨a0, rfl, rfl, rfl, wa0⟩ := open_string Tryd.underlying9 (hval 0 9 v0 rfl rfl) h0
  have hr0 : a0.size ≤ 140737488355328 := by
    have hr := sized_string hsz (j := 0) (t := 9) rfl rfl
    have : a0.data.toList.length = a0.size := by simp
    simp only [reachBytes] at hr
    omega
  obtain ⟨ad1, cap1, L1, rfl, hL1, hn1, hz1, hcap1⟩ := open_strs (hval 1 32 v1 rfl rfl) h1
  obtain ⟨ad2, cap2, L2, rfl, hL2, hn2⟩ := open_bools (hval 2 42 v2 rfl rfl) h2
  clear hA0 hval0
  have hT := tab_of_laid hL
  refine (walBack_walk a0 L1 ad1 cap1 L2 ad2 cap2 W hT hr0 hL1 hn1 hz1 hL2 hn2).mono fun e W' ⟨he, hg⟩ => ?_
  subst he
  exact ⟨_, rfl, _, _, _, [], _, [], hW', trodAll_mk1 (shut_bool Tryd.underlying4 _), trodAll_mk3 (shut_string Tryd.underlying9 wa0) (Below.trod laidOut2 (by kernel_rfl) (of_decide_eq_true (by kernel_rfl)) k1 hg.below lt1) (Below.trod laidOut2 (by kernel_rfl) (of_decide_eq_true (by kernel_rfl)) k2 hg.below lt2), rfl, hg.below.frame _, fun h => by cases h⟩

theorem walBack_holds : Rows.WalBackSaid :=
  OpenClaim.holds_of_wide 4 Tryd.f4 rfl rfl rfl rfl rfl rfl rfl ⟨rfl, rfl, rfl, rfl, rfl⟩ rfl rfl rfl rfl rfl (by kernel_rfl) Tryd.func4 (by kernel_rfl)
    (of_decide_eq_true (by kernel_rfl)) (by unfold Func.isWrapper; first | (rw [if_pos (by decide +kernel)]; kernel_rfl) | (rw [if_neg (by decide +kernel)]; exact ⟨rfl, rfl⟩))
    (fun os started H enc _ => walBack_lifted os started H enc)

theorem walBack_card_holds : Rows.WalBackCardSaid :=
  Claim7.holds_tied_plain_at .later [] [.data] true (true, "a8beedc6c92902f4666d56b724f8693fa3341ee55780a19c5c7324fe83af55ed") false
    walBack_holds (fun _ h => by cases h) (by kernel_rfl) (fun _ h => by cases h) walBack_row_tie rfl ⟨rfl, rfl⟩ (by kernel_rfl) rfl
    (fun f fn hf hfn => by
      obtain rfl : f = 4 := Option.some.inj ((show Tryd.prog.funcNamed "entente/ententelaw17.WalBack" = some 4 by kernel_rfl).symm.trans hf) |>.symm
      obtain rfl : fn = Tryd.f4 := (Option.some.inj (Tryd.func4.symm.trans hfn)).symm
      exact ⟨by kernel_rfl, fun j t ht => by
        rw [Tryd.params4] at ht
        have hm : t ∈ [9, 32, 42] := by simpa using Array.mem_of_getElem? ht
        have hall : ([9, 32, 42].all fun u => !Tryd.prog.wantsStandIn u) = true := by kernel_rfl
        exact (show Tryd.prog.wantsStandIn t = false by simpa using List.all_eq_true.1 hall t hm)⟩)
    (by kernel_rfl)
end Go.Proofs.YtojmhhmpmpbpfaaDoor
