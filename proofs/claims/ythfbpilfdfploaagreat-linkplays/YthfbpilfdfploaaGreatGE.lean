/- Parts of these proofs, laid together. -/
import Derived.Test.YthfbpilfdfploaaGreatGD
import Derived.Test.YthfbpilfdfploaaGreatGA
import Derived.WalkSmall
import Derived.Test.YthfbpilfdfploaaGreatGC
import Derived.BigRegion
import Derived.Laws.OwnMore
import Derived.Tactics
namespace Go.Proofs.YthfbpilfdfploaaGreat
open Go.RowKit

variable {Z : Nat → Prop}
set_option maxHeartbeats 1000000 in
theorem closeDue_any (x : Mi) (z : Int) (g : Nat) (w : World) (hb : w.cell? ⟨g, 0, none⟩ = some (.int .i64 z)) :
    Calls Tryz.prog 85 #[x.v, .pointer (some ⟨g, 0, none⟩)] w fun e w' => e = .returned (.bool (decide (x.d ≤ z))) ∧ Gr w w' := by
  obtain ⟨q, dd, s, ⟨⟨k, r, n, L, d, y⟩, ad, cap⟩⟩ := x
  have clt := World.block_lt_of_cell? w _ hb
  dsimp only [Mn.v, Mi.v] at *
  generalize L.length = ll at *
  go_enter Tryz.func85, Tryz.ntmps85
  go_wp2
  go_ret
  exact ⟨rfl, (by repeat(first|exact Gr.r _|refine Gr.a ?_|refine Gr.d ?_|refine Gr.t ?_ (by assumption)))⟩

set_option maxHeartbeats 8000000 in
set_option maxRecDepth 100000 in
theorem chosenDue_any (D : List Mi) (z : Int) (ad : Option Addr) (cap g : Nat) (w : World) (hD : ItsAt Z w ad D) (hn : D.length ≤ 1000) (hb : w.cell? ⟨g, 0, none⟩ = some (.int .i64 z)) :
    Calls Tryz.prog 76 #[.slice ad D.length cap, .func (.func 85) #[] #[.pointer (some ⟨g, 0, none⟩)]] w fun e w' => BxR Z (its (D.filter fun x => decide (x.d ≤ z))) w e w' := by
  obtain ⟨i0, hi0, hz0, hz1, hz2⟩ := info_parts infoItem
  have HC : Hid (∀ x w', Gr w w' → Calls Tryz.prog 85 #[Mi.v x, .pointer (some ⟨g, 0, none⟩)] w' fun e w2 => e = .returned (.bool (decide (x.d ≤ z))) ∧ Gr w' w2) := fun x w' gr => closeDue_any x z g w' (gr.keep hb)
  have HD := Lib.hid hD.row
  have HN := Lib.hid hD.nt
  clear hD hb
  go_enter Tryz.func76, Tryz.ntmps76
  go_wp2
  go_loopw [5, 10] (fun s5 s10 wr => ∃ (k : Nat) (a : Option Addr) (c : Nat) (E : List Mi), s10 = .int .i64 k ∧ s5 = .slice a E.length c ∧ k ≤ D.length ∧ E.length ≤ k ∧ E = (D.take k).filter (fun x => decide (x.d ≤ z)) ∧ Bxs Z wr w.heap.size (.slice a E.length c) E ∧ Gr w wr) (fun _ s10 _ => D.length - (intOf s10).toNat)
  case atStart => exact ⟨0, none, 0, [], rfl, rfl, Nat.zero_le _, Nat.le_refl _, by simp, Bxs.nil _ _, Gr.refl _⟩
  case round =>
    obtain ⟨k, a, c, E, rfl, rfl, hk, hE, hEl, hbx, hg⟩ := hrel
    have HG := Lib.hid hg
    have HB := Lib.hid hbx
    have HEl := Lib.hid hEl
    have HEk : Hid (E.length ≤ k) := hE
    have hEb : E.length ≤ 1000 := by omega
    clear hbx hEl hE
    by_cases hlt : k < D.length
    · obtain ⟨b, off, rfl, hbl, d0, d1, d2, d3, d4, d5, d6, d7, d8⟩ := ItsRow.at HD.out k hlt
      have d0 := hg.keep d0
      have d1 := hg.keep d1
      have d2 := hg.keep d2
      have d3 := hg.keep d3
      have d4 := hg.keep d4
      have d5 := hg.keep d5
      have d6 := hg.keep d6
      have d7 := hg.keep d7
      have d8 := hg.keep d8
      have hbw : b < wr.heap.size := Nat.lt_of_lt_of_le hbl hg.size
      have hki : (k : Int) < (D.length : Int) := by omega
      have HX := Lib.hid (HC.out D[k])
      have HNx := Lib.hid (HN.out D[k] (List.getElem_mem hlt))
      have HT : Hid ((D.take (k + 1)).filter (fun x => decide (x.d ≤ z)) = (D.take k).filter (fun x => decide (x.d ≤ z)) ++ [D[k]].filter (fun x => decide (x.d ≤ z))) := by
        show _ = _
        rw [List.take_succ_eq_append_getElem hlt, List.filter_append]
      clear hg
      generalize D[k] = x at *
      cases hp : decide (x.d ≤ z) with
      | true =>
        have HT2 : Hid ((D.take (k + 1)).filter (fun x => decide (x.d ≤ z)) = E ++ [x]) := by
          show _ = _
          rw [HT.out, ← HEl.out, List.filter_cons, hp]; rfl
        rw [hp] at HX
        clear hp HT HEl
        obtain ⟨q, dd, s, ⟨⟨k0, r, n, L, dt, y⟩, ax, cx⟩⟩ := x
        dsimp only [Mn.v, Mi.v] at *
        go_wp2_with fail
        refine (HX.out _ (HG.out.trans (by repeat(first|exact Gr.r _|refine Gr.a ?_|refine Gr.d ?_|refine Gr.t ?_ (by assumption))))).mono ?_
        rintro e1 w1 ⟨rfl, hg1⟩
        have g3 : Gr wr w1 := (Gr.refl wr).alloc.trans hg1
        have B1 := (Cs.new wr [.int .i64 q, .int .i64 dd, .int .i64 s, .int .i64 k0, .int .i64 r, .int .i64 n, .slice ax L.length cx, .string dt, .int .i64 y] 73 _ rfl).gr hg1
        have y0 := B1.at_ 0 _ rfl
        have y1 := B1.at_ 1 _ rfl
        have y2 := B1.at_ 2 _ rfl
        have y3 := B1.at_ 3 _ rfl
        have y4 := B1.at_ 4 _ rfl
        have y5 := B1.at_ 5 _ rfl
        have y6 := B1.at_ 6 _ rfl
        have y7 := B1.at_ 7 _ rfl
        have y8 := B1.at_ 8 _ rfl
        have yf0 := B1.fz 0 (by simp)
        have yf1 := B1.fz 1 (by simp)
        have yf2 := B1.fz 2 (by simp)
        have yf3 := B1.fz 3 (by simp)
        have yf4 := B1.fz 4 (by simp)
        have yf5 := B1.fz 5 (by simp)
        have yf6 := B1.fz 6 (by simp)
        have yf7 := B1.fz 7 (by simp)
        have yf8 := B1.fz 8 (by simp)
        have ylt := B1.lt
        have HOw := Lib.hid ((HB.out.gr g3).gr ((Gr.refl w1).alloc (o := .cells #[.int .i64 q, .int .i64 dd, .int .i64 s, .int .i64 k0, .int .i64 r, .int .i64 n, .slice ax L.length cx, .string dt, .int .i64 y] 73)))
        have HM4 := Lib.hid ((HNx.out.gr (HG.out.trans g3)).gr ((Gr.refl w1).alloc (o := .cells #[.int .i64 q, .int .i64 dd, .int .i64 s, .int .i64 k0, .int .i64 r, .int .i64 n, .slice ax L.length cx, .string dt, .int .i64 y] 73)))
        have HG4 : Hid (Gr w (w1.alloc (.cells #[.int .i64 q, .int .i64 dd, .int .i64 s, .int .i64 k0, .int .i64 r, .int .i64 n, .slice ax L.length cx, .string dt, .int .i64 y] 73))) := (HG.out.trans g3).alloc
        have hnw := i_new w1 ⟨q, dd, s, ⟨⟨k0, r, n, L, dt, y⟩, ax, cx⟩⟩ 73
        rw [show (iC ⟨q, dd, s, ⟨⟨k0, r, n, L, dt, y⟩, ax, cx⟩⟩).toArray = #[.int .i64 q, .int .i64 dd, .int .i64 s, .int .i64 k0, .int .i64 r, .int .i64 n, .slice ax L.length cx, .string dt, .int .i64 y] from rfl] at hnw
        have HNw := Lib.hid hnw
        clear hnw
        have HAp : Hid (L ≠ [] → ∀ p, ax = some p → (Value.slice a E.length c).ownBlock ≠ some p.block) := by
          intro hne p e kk
          have h1 := (HB.out.own.lt _ kk).1
          have h2 := hops_lt HNx.out.hp hne e
          omega
        have hlen4 : w.heap.size ≤ w1.heap.size := Nat.le_trans HG.out.size g3.size
        clear hg1 g3 HX HNx d0 d1 d2 d3 d4 d5 d6 d7 d8 B1
        have hm1 : E.length + 1 ≤ maxLen := by unfold maxLen; omega
        go_wp2_with (first
          | (at_builtin; refine wpList_append_own_at _ rfl _ _ 53 rfl w.heap.size 73 i0 (.agg #[.int .i64 0, .int .i64 0, .int .i64 0, .int .i64 0, .int .i64 0, .int .i64 0, .slice none 0 0, .string ⟨#[]⟩, .int .i64 0]) 9 96 Tryz.underlying53 hi0 hz0 hz1 hz2 rfl (by decide) _ _ _ rfl HOw.out.own ⟨w1.heap.size, 0, none⟩ 1 1 ([(⟨q, dd, s, ⟨⟨k0, r, n, L, dt, y⟩, ax, cx⟩⟩ : Mi)].flatMap iC) rfl rfl HNw.out (i_one _) hm1 (by omega) (by simp; omega) ?_)
          | fail)
        intro v' w5 hown' hgrow _ hat
        have hmo := Bxs.more (x := ⟨q, dd, s, ⟨⟨k0, r, n, L, dt, y⟩, ax, cx⟩⟩) HOw.out HM4.out HAp.out hown' hgrow (by simpa using hat)
        obtain ⟨a5, c5, rfl⟩ := own_slice3 hmo
        have HMo := Lib.hid hmo
        have HG5 := Lib.hid (HOw.out.grown HG4.out hgrow (Nat.le_refl _))
        clear hmo hown' hgrow hat yf0 yf1 yf2 yf3 yf4 yf5 yf6 yf7 yf8 y0 y1 y2 y3 y4 y5 y6 y7 y8 HOw HM4 HNw HAp
        go_wp2
        go_roundw
        case rel => exact ⟨k + 1, a5, c5, E ++ [(⟨q, dd, s, ⟨⟨k0, r, n, L, dt, y⟩, ax, cx⟩⟩ : Mi)], by go_num, rfl, by omega, by have := HEk.out; simp; omega, HT2.out.symm, HMo.out, HG5.out⟩
        case measure => simp [intOf]; omega
      | false =>
        have HT2 : Hid ((D.take (k + 1)).filter (fun x => decide (x.d ≤ z)) = E) := by
          show _ = _
          rw [HT.out, ← HEl.out, List.filter_cons, hp]; simp
        rw [hp] at HX
        clear hp HT HEl
        obtain ⟨q, dd, s, ⟨⟨k0, r, n, L, dt, y⟩, ax, cx⟩⟩ := x
        dsimp only [Mn.v, Mi.v] at *
        go_wp2_with fail
        refine (HX.out _ (HG.out.trans (by repeat(first|exact Gr.r _|refine Gr.a ?_|refine Gr.d ?_|refine Gr.t ?_ (by assumption))))).mono ?_
        rintro e1 w1 ⟨rfl, hg1⟩
        have g3 : Gr wr w1 := (Gr.refl wr).alloc.trans hg1
        have HB2 := Lib.hid (HB.out.gr g3)
        have HG2 := Lib.hid (HG.out.trans g3)
        clear hg1 g3 HX HNx d0 d1 d2 d3 d4 d5 d6 d7 d8
        go_wp2
        go_roundw
        case rel => exact ⟨k + 1, a, c, E, by go_num, rfl, by omega, by have := HEk.out; omega, HT2.out.symm, HB2.out, HG2.out⟩
        case measure => simp [intOf]; omega
    · have hge : ¬ ((k : Int) < (D.length : Int)) := by omega
      have HL : Hid (its E = its (D.filter fun x => decide (x.d ≤ z))) := by
        show _ = _
        rw [HEl.out, List.take_of_length_le (by omega)]
      go_wp2
      go_ret
      exact ⟨a, c, E, rfl, HB.out, HL.out, HG.out⟩

set_option maxHeartbeats 1000000 in
theorem closeAns_any (x : Mi) (z : Int) (g : Nat) (w : World) (hb : w.cell? ⟨g, 0, none⟩ = some (.int .i64 z)) :
    Calls Tryz.prog 77 #[x.v, .pointer (some ⟨g, 0, none⟩)] w fun e w' => e = .returned (.bool (decide (z < x.q))) ∧ Gr w w' := by
  obtain ⟨q, dd, s, ⟨⟨k, r, n, L, d, y⟩, ad, cap⟩⟩ := x
  have clt := World.block_lt_of_cell? w _ hb
  dsimp only [Mn.v, Mi.v] at *
  generalize L.length = ll at *
  go_enter Tryz.func77, Tryz.ntmps77
  go_wp2
  go_ret
  exact ⟨rfl, (by repeat(first|exact Gr.r _|refine Gr.a ?_|refine Gr.d ?_|refine Gr.t ?_ (by assumption)))⟩

set_option maxHeartbeats 8000000 in
set_option maxRecDepth 100000 in
theorem chosenAns_any (D : List Mi) (z : Int) (ad : Option Addr) (cap g : Nat) (w : World) (hD : ItsAt Z w ad D) (hn : D.length ≤ 1000) (hb : w.cell? ⟨g, 0, none⟩ = some (.int .i64 z)) :
    Calls Tryz.prog 76 #[.slice ad D.length cap, .func (.func 77) #[] #[.pointer (some ⟨g, 0, none⟩)]] w fun e w' => BxR Z (its (D.filter fun x => decide (z < x.q))) w e w' := by
  obtain ⟨i0, hi0, hz0, hz1, hz2⟩ := info_parts infoItem
  have HC : Hid (∀ x w', Gr w w' → Calls Tryz.prog 77 #[Mi.v x, .pointer (some ⟨g, 0, none⟩)] w' fun e w2 => e = .returned (.bool (decide (z < x.q))) ∧ Gr w' w2) := fun x w' gr => closeAns_any x z g w' (gr.keep hb)
  have HD := Lib.hid hD.row
  have HN := Lib.hid hD.nt
  clear hD hb
  go_enter Tryz.func76, Tryz.ntmps76
  go_wp2
  go_loopw [5, 10] (fun s5 s10 wr => ∃ (k : Nat) (a : Option Addr) (c : Nat) (E : List Mi), s10 = .int .i64 k ∧ s5 = .slice a E.length c ∧ k ≤ D.length ∧ E.length ≤ k ∧ E = (D.take k).filter (fun x => decide (z < x.q)) ∧ Bxs Z wr w.heap.size (.slice a E.length c) E ∧ Gr w wr) (fun _ s10 _ => D.length - (intOf s10).toNat)
  case atStart => exact ⟨0, none, 0, [], rfl, rfl, Nat.zero_le _, Nat.le_refl _, by simp, Bxs.nil _ _, Gr.refl _⟩
  case round =>
    obtain ⟨k, a, c, E, rfl, rfl, hk, hE, hEl, hbx, hg⟩ := hrel
    have HG := Lib.hid hg
    have HB := Lib.hid hbx
    have HEl := Lib.hid hEl
    have HEk : Hid (E.length ≤ k) := hE
    have hEb : E.length ≤ 1000 := by omega
    clear hbx hEl hE
    by_cases hlt : k < D.length
    · obtain ⟨b, off, rfl, hbl, d0, d1, d2, d3, d4, d5, d6, d7, d8⟩ := ItsRow.at HD.out k hlt
      have d0 := hg.keep d0
      have d1 := hg.keep d1
      have d2 := hg.keep d2
      have d3 := hg.keep d3
      have d4 := hg.keep d4
      have d5 := hg.keep d5
      have d6 := hg.keep d6
      have d7 := hg.keep d7
      have d8 := hg.keep d8
      have hbw : b < wr.heap.size := Nat.lt_of_lt_of_le hbl hg.size
      have hki : (k : Int) < (D.length : Int) := by omega
      have HX := Lib.hid (HC.out D[k])
      have HNx := Lib.hid (HN.out D[k] (List.getElem_mem hlt))
      have HT : Hid ((D.take (k + 1)).filter (fun x => decide (z < x.q)) = (D.take k).filter (fun x => decide (z < x.q)) ++ [D[k]].filter (fun x => decide (z < x.q))) := by
        show _ = _
        rw [List.take_succ_eq_append_getElem hlt, List.filter_append]
      clear hg
      generalize D[k] = x at *
      cases hp : decide (z < x.q) with
      | true =>
        have HT2 : Hid ((D.take (k + 1)).filter (fun x => decide (z < x.q)) = E ++ [x]) := by
          show _ = _
          rw [HT.out, ← HEl.out, List.filter_cons, hp]; rfl
        rw [hp] at HX
        clear hp HT HEl
        obtain ⟨q, dd, s, ⟨⟨k0, r, n, L, dt, y⟩, ax, cx⟩⟩ := x
        dsimp only [Mn.v, Mi.v] at *
        go_wp2_with fail
        refine (HX.out _ (HG.out.trans (by repeat(first|exact Gr.r _|refine Gr.a ?_|refine Gr.d ?_|refine Gr.t ?_ (by assumption))))).mono ?_
        rintro e1 w1 ⟨rfl, hg1⟩
        have g3 : Gr wr w1 := (Gr.refl wr).alloc.trans hg1
        have B1 := (Cs.new wr [.int .i64 q, .int .i64 dd, .int .i64 s, .int .i64 k0, .int .i64 r, .int .i64 n, .slice ax L.length cx, .string dt, .int .i64 y] 73 _ rfl).gr hg1
        have y0 := B1.at_ 0 _ rfl
        have y1 := B1.at_ 1 _ rfl
        have y2 := B1.at_ 2 _ rfl
        have y3 := B1.at_ 3 _ rfl
        have y4 := B1.at_ 4 _ rfl
        have y5 := B1.at_ 5 _ rfl
        have y6 := B1.at_ 6 _ rfl
        have y7 := B1.at_ 7 _ rfl
        have y8 := B1.at_ 8 _ rfl
        have yf0 := B1.fz 0 (by simp)
        have yf1 := B1.fz 1 (by simp)
        have yf2 := B1.fz 2 (by simp)
        have yf3 := B1.fz 3 (by simp)
        have yf4 := B1.fz 4 (by simp)
        have yf5 := B1.fz 5 (by simp)
        have yf6 := B1.fz 6 (by simp)
        have yf7 := B1.fz 7 (by simp)
        have yf8 := B1.fz 8 (by simp)
        have ylt := B1.lt
        have HOw := Lib.hid ((HB.out.gr g3).gr ((Gr.refl w1).alloc (o := .cells #[.int .i64 q, .int .i64 dd, .int .i64 s, .int .i64 k0, .int .i64 r, .int .i64 n, .slice ax L.length cx, .string dt, .int .i64 y] 73)))
        have HM4 := Lib.hid ((HNx.out.gr (HG.out.trans g3)).gr ((Gr.refl w1).alloc (o := .cells #[.int .i64 q, .int .i64 dd, .int .i64 s, .int .i64 k0, .int .i64 r, .int .i64 n, .slice ax L.length cx, .string dt, .int .i64 y] 73)))
        have HG4 : Hid (Gr w (w1.alloc (.cells #[.int .i64 q, .int .i64 dd, .int .i64 s, .int .i64 k0, .int .i64 r, .int .i64 n, .slice ax L.length cx, .string dt, .int .i64 y] 73))) := (HG.out.trans g3).alloc
        have hnw := i_new w1 ⟨q, dd, s, ⟨⟨k0, r, n, L, dt, y⟩, ax, cx⟩⟩ 73
        rw [show (iC ⟨q, dd, s, ⟨⟨k0, r, n, L, dt, y⟩, ax, cx⟩⟩).toArray = #[.int .i64 q, .int .i64 dd, .int .i64 s, .int .i64 k0, .int .i64 r, .int .i64 n, .slice ax L.length cx, .string dt, .int .i64 y] from rfl] at hnw
        have HNw := Lib.hid hnw
        clear hnw
        have HAp : Hid (L ≠ [] → ∀ p, ax = some p → (Value.slice a E.length c).ownBlock ≠ some p.block) := by
          intro hne p e kk
          have h1 := (HB.out.own.lt _ kk).1
          have h2 := hops_lt HNx.out.hp hne e
          omega
        have hlen4 : w.heap.size ≤ w1.heap.size := Nat.le_trans HG.out.size g3.size
        clear hg1 g3 HX HNx d0 d1 d2 d3 d4 d5 d6 d7 d8 B1
        have hm1 : E.length + 1 ≤ maxLen := by unfold maxLen; omega
        go_wp2_with (first
          | (at_builtin; refine wpList_append_own_at _ rfl _ _ 53 rfl w.heap.size 73 i0 (.agg #[.int .i64 0, .int .i64 0, .int .i64 0, .int .i64 0, .int .i64 0, .int .i64 0, .slice none 0 0, .string ⟨#[]⟩, .int .i64 0]) 9 96 Tryz.underlying53 hi0 hz0 hz1 hz2 rfl (by decide) _ _ _ rfl HOw.out.own ⟨w1.heap.size, 0, none⟩ 1 1 ([(⟨q, dd, s, ⟨⟨k0, r, n, L, dt, y⟩, ax, cx⟩⟩ : Mi)].flatMap iC) rfl rfl HNw.out (i_one _) hm1 (by omega) (by simp; omega) ?_)
          | fail)
        intro v' w5 hown' hgrow _ hat
        have hmo := Bxs.more (x := ⟨q, dd, s, ⟨⟨k0, r, n, L, dt, y⟩, ax, cx⟩⟩) HOw.out HM4.out HAp.out hown' hgrow (by simpa using hat)
        obtain ⟨a5, c5, rfl⟩ := own_slice3 hmo
        have HMo := Lib.hid hmo
        have HG5 := Lib.hid (HOw.out.grown HG4.out hgrow (Nat.le_refl _))
        clear hmo hown' hgrow hat yf0 yf1 yf2 yf3 yf4 yf5 yf6 yf7 yf8 y0 y1 y2 y3 y4 y5 y6 y7 y8 HOw HM4 HNw HAp
        go_wp2
        go_roundw
        case rel => exact ⟨k + 1, a5, c5, E ++ [(⟨q, dd, s, ⟨⟨k0, r, n, L, dt, y⟩, ax, cx⟩⟩ : Mi)], by go_num, rfl, by omega, by have := HEk.out; simp; omega, HT2.out.symm, HMo.out, HG5.out⟩
        case measure => simp [intOf]; omega
      | false =>
        have HT2 : Hid ((D.take (k + 1)).filter (fun x => decide (z < x.q)) = E) := by
          show _ = _
          rw [HT.out, ← HEl.out, List.filter_cons, hp]; simp
        rw [hp] at HX
        clear hp HT HEl
        obtain ⟨q, dd, s, ⟨⟨k0, r, n, L, dt, y⟩, ax, cx⟩⟩ := x
        dsimp only [Mn.v, Mi.v] at *
        go_wp2_with fail
        refine (HX.out _ (HG.out.trans (by repeat(first|exact Gr.r _|refine Gr.a ?_|refine Gr.d ?_|refine Gr.t ?_ (by assumption))))).mono ?_
        rintro e1 w1 ⟨rfl, hg1⟩
        have g3 : Gr wr w1 := (Gr.refl wr).alloc.trans hg1
        have HB2 := Lib.hid (HB.out.gr g3)
        have HG2 := Lib.hid (HG.out.trans g3)
        clear hg1 g3 HX HNx d0 d1 d2 d3 d4 d5 d6 d7 d8
        go_wp2
        go_roundw
        case rel => exact ⟨k + 1, a, c, E, by go_num, rfl, by omega, by have := HEk.out; omega, HT2.out.symm, HB2.out, HG2.out⟩
        case measure => simp [intOf]; omega
    · have hge : ¬ ((k : Int) < (D.length : Int)) := by omega
      have HL : Hid (its E = its (D.filter fun x => decide (z < x.q))) := by
        show _ = _
        rw [HEl.out, List.take_of_length_le (by omega)]
      go_wp2
      go_ret
      exact ⟨a, c, E, rfl, HB.out, HL.out, HG.out⟩

end Go.Proofs.YthfbpilfdfploaaGreat
namespace Go.Proofs.YthfbpilfdfploaaGreat.Bo

def delE (n : Int) : Int := if n < 1 then 1 else if n = 1 then 2 else if n = 2 then 4 else 8
def nextB (now : Int) : Bool := decide (0 ≤ now) && decide (now ≤ 1000000000)
def nextE (now n : Int) : Int := if nextB now = true then now + delE n else 0
def nextF (now : Int) : Int := if nextB now = true then 0 else 110
/- what the first n delays are together -/
theorem del_base {n : Int} (h : n < 1) : delE n = 1 := by unfold delE; rw [if_pos h]
theorem del_cap {n : Int} (h : 2 < n) : delE n = 8 := by unfold delE; rw [if_neg (by omega), if_neg (by omega), if_neg (by omega)]
theorem del_range (n : Int) : 1 ≤ delE n ∧ delE n ≤ 8 := by unfold delE; split <;> (try split) <;> (try split) <;> omega
/- the document's own words: the base doubled as often, but at most the cap -/
/- doubling up to the cap, a step more -/
/- what fits: the first ones are together at most the span, and one more is not -/
/- and there is but one such number -/
end Go.Proofs.YthfbpilfdfploaaGreat.Bo
namespace Go.Proofs.YthfbpilfdfploaaGreat
open Go.RowKit

set_option maxHeartbeats 1000000 in
set_option maxRecDepth 100000 in
theorem delay_any (n : Int) (w : World) :
    Calls Tryz.prog 115 #[.int .i64 n] w fun e w' => e = .returned (.int .i64 (Bo.delE n)) ∧ w' = w := by
  go_enter Tryz.func115, Tryz.ntmps115
  go_wp2
  go_loop [3, 5] (fun d i => ∃ k : Nat, k < 3 ∧ ((k : Int) ≤ n ∨ k = 0) ∧ i = .int .i64 k ∧ d = .int .i64 (Bo.delE k)) (fun _ i => 3 - (intOf i).toNat)
  case atStart => exact ⟨0, by omega, Or.inr rfl, rfl, rfl⟩
  case round =>
    obtain ⟨k, hk, hkn, rfl, rfl⟩ := hrel
    by_cases hlt : (k : Int) < n
    · match k, hk with
      | 0, _ =>
        have hlt' : (0 : Int) < n := by omega
        have e0 : Bo.delE ((0 : Nat) : Int) = 1 := rfl
        rw [e0]
        go_wp2
        go_round
        case rel => exact ⟨1, by omega, by omega, by go_num, rfl⟩
        case measure => simp [intOf]
      | 1, _ =>
        have hlt' : (1 : Int) < n := by omega
        have e0 : Bo.delE ((1 : Nat) : Int) = 2 := rfl
        rw [e0]
        go_wp2
        go_round
        case rel => exact ⟨2, by omega, by omega, by go_num, rfl⟩
        case measure => simp [intOf]
      | 2, _ =>
        have hlt' : (2 : Int) < n := by omega
        have e0 : Bo.delE ((2 : Nat) : Int) = 4 := rfl
        have HE : Hid (Bo.delE n = 8) := Bo.del_cap (by omega)
        rw [e0]
        go_wp2
        go_ret
        exact ⟨by rw [HE.out]; rfl, rfl⟩
    · have HE : Hid (Bo.delE n = Bo.delE k) := by
        show _ = _
        unfold Bo.delE
        repeat' split
        all_goals omega
      generalize Bo.delE (k : Int) = d at *
      go_wp2
      go_ret
      exact ⟨by rw [HE.out]; rfl, rfl⟩

set_option maxHeartbeats 1000000 in
set_option maxRecDepth 100000 in
theorem next_any (now n : Int) (w : World) :
    Calls Tryz.prog 107 #[.int .i64 now, .int .i64 n] w fun e w' => e = .returned (.tuple #[.int .i64 (Bo.nextE now n), .int .i64 (Bo.nextF now)]) ∧ w' = w := by
  have HD : Hid (Calls Tryz.prog 115 #[.int .i64 n] w fun e w' => e = .returned (.int .i64 (Bo.delE n)) ∧ w' = w) := delay_any n w
  have hd := Bo.del_range n
  by_cases hb : Bo.nextB now = true
  · have E1 : Hid (Bo.nextE now n = now + Bo.delE n) := by show _ = _; unfold Bo.nextE; rw [if_pos hb]
    have E2 : Hid (Bo.nextF now = 0) := by show _ = _; unfold Bo.nextF; rw [if_pos hb]
    simp only [Bo.nextB, Bool.and_eq_true, decide_eq_true_eq] at hb
    obtain ⟨h0, h1⟩ := hb
    generalize Bo.delE n = d at *
    go_enter Tryz.func107, Tryz.ntmps107
    go_wp2_with fail
    refine HD.out.mono ?_
    rintro e w1 ⟨rfl, hww⟩; obtain rfl := hww.symm
    go_wp2
    go_ret2
    exact ⟨by rw [E1.out, E2.out]; rfl, rfl⟩
  · have E1 : Hid (Bo.nextE now n = 0) := by show _ = _; unfold Bo.nextE; rw [if_neg hb]
    have E2 : Hid (Bo.nextF now = 110) := by show _ = _; unfold Bo.nextF; rw [if_neg hb]
    simp only [Bo.nextB, Bool.and_eq_true, decide_eq_true_eq] at hb
    by_cases h0 : now < 0
    · go_enter Tryz.func107, Tryz.ntmps107
      go_wp2
      go_ret2
      exact ⟨by rw [E1.out, E2.out]; rfl, rfl⟩
    · have h1 : 1000000000 < now := by omega
      go_enter Tryz.func107, Tryz.ntmps107
      go_wp2
      go_ret2
      exact ⟨by rw [E1.out, E2.out]; rfl, rfl⟩

end Go.Proofs.YthfbpilfdfploaaGreat
namespace Go.Proofs.YthfbpilfdfploaaGreat
open Go.RowKit

theorem parentOf (r n : Int) (L : List (Int × Int)) (ad : Option Addr) (cap : Nat) (w : World) (hL : HopsAt w ad L) (hc : L.length ≤ cap) (hm : Idn.mayB r n L = true) (h0 : 0 < L.length) :
    Calls Tryz.prog 64 #[.agg #[.int .i64 r, .int .i64 n, .slice ad L.length cap]] w fun e w' => ∃ ad2 cap2 s, e = .returned (.tuple #[.agg #[.int .i64 r, .int .i64 n, .slice ad2 L.dropLast.length cap2], .int .i64 s, .bool true]) ∧ HopsAt w' ad2 L.dropLast ∧ Gr w w' := by
  have hne : L ≠ [] := List.length_pos_iff.1 h0
  obtain ⟨b, off, rfl, _, _⟩ := hL 0 h0
  obtain ⟨⟨s, o⟩, hlast⟩ : ∃ x, L.getLast hne = x := ⟨_, rfl⟩
  have e : L = L.dropLast ++ [(s, o)] := by rw [← hlast]; exact (List.dropLast_concat_getLast hne).symm
  have hl : L.length = L.dropLast.length + 1 := by rw [List.length_dropLast]; omega
  generalize L.dropLast = M at *
  subst e
  have h4 := may_len hm
  rw [hl]
  refine (parent_yes r n s o M b off cap w hL (by omega) hm (by omega)).mono ?_
  rintro e w' ⟨ad2, cap2, rfl, _, h1, h2⟩
  exact ⟨ad2, cap2, s, rfl, h1, h2⟩
theorem may_drop {r n : Int} {L : List (Int × Int)} (hm : Idn.mayB r n L = true) (h0 : 0 < L.length) : Idn.mayB r n L.dropLast = true := by
  have hne : L ≠ [] := List.length_pos_iff.1 h0
  obtain ⟨⟨s, o⟩, hlast⟩ : ∃ x, L.getLast hne = x := ⟨_, rfl⟩
  have e : L = L.dropLast ++ [(s, o)] := by rw [← hlast]; exact (List.dropLast_concat_getLast hne).symm
  rw [e] at hm
  exact (Idn.may_snoc hm).1
theorem org_up {r n : Int} {L : List (Int × Int)} (hm : Idn.mayB r n L = true) : orgE r n L = (Idn.path r L).getLastD (-1) := by
  unfold orgE pathE; rw [if_pos hm]

set_option maxHeartbeats 4000000 in
set_option maxRecDepth 100000 in
theorem nEnds_any (k r n : Int) (L : List (Int × Int)) (d : ByteArray) (y : Int) (ad : Option Addr) (cap : Nat) (w : World) (hL : HopsAt w ad L) (hn : L.length ≤ 9223372036854775807) (hd : d.size ≤ 9223372036854775807) (hc : L.length ≤ cap) :
    Calls Tryz.prog 44 #[.agg #[.int .i64 k, .int .i64 r, .int .i64 n, .slice ad L.length cap, .string d, .int .i64 y]] w fun e w' => e = .returned (.tuple #[.int .i64 (Nt.ends1 (⟨k, r, n, L, d, y⟩ : Nt)), .int .i64 (Nt.ends2 (⟨k, r, n, L, d, y⟩ : Nt))]) ∧ Gr w w' := by
  have HC : Hid (∀ w', Gr w w' → Calls Tryz.prog 63 #[.agg #[.int .i64 k, .int .i64 r, .int .i64 n, .slice ad L.length cap, .string d, .int .i64 y]] w' fun e w2 => e = .returned (.int .i64 (Nt.ckE (⟨k, r, n, L, d, y⟩ : Nt))) ∧ Gr w' w2) := fun w' g => nCheck_any k r n L d y ad cap w' (hL.gr g) hn hd
  have HE1 : Hid (Nt.ends1 (⟨k, r, n, L, d, y⟩ : Nt) = if Nt.ntB (⟨k, r, n, L, d, y⟩ : Nt) = true then (if k ≤ 4 then Nt.upO (⟨k, r, n, L, d, y⟩ : Nt) else Nt.dnO (⟨k, r, n, L, d, y⟩ : Nt)) else -1) := rfl
  have HE2 : Hid (Nt.ends2 (⟨k, r, n, L, d, y⟩ : Nt) = if Nt.ntB (⟨k, r, n, L, d, y⟩ : Nt) = true then (if k ≤ 4 then Nt.dnO (⟨k, r, n, L, d, y⟩ : Nt) else Nt.upO (⟨k, r, n, L, d, y⟩ : Nt)) else -1) := rfl
  generalize Nt.ends1 (⟨k, r, n, L, d, y⟩ : Nt) = E1 at *
  generalize Nt.ends2 (⟨k, r, n, L, d, y⟩ : Nt) = E2 at *
  unfold Nt.ckE at HC
  by_cases hm : Nt.ntB (⟨k, r, n, L, d, y⟩ : Nt) = true
  · rw [if_pos hm] at HC HE1 HE2
    obtain ⟨hk, hi, h0, _, _⟩ := Nt.may_note hm
    simp only at hk hi h0
    have hdrop := may_drop hi h0
    have HP : Hid (∀ w', Gr w w' → Calls Tryz.prog 64 #[.agg #[.int .i64 r, .int .i64 n, .slice ad L.length cap]] w' fun e w2 => ∃ ad2 cap2 s, e = .returned (.tuple #[.agg #[.int .i64 r, .int .i64 n, .slice ad2 L.dropLast.length cap2], .int .i64 s, .bool true]) ∧ HopsAt w2 ad2 L.dropLast ∧ Gr w' w2) := fun w' g => parentOf r n L ad cap w' (hL.gr g) hc hi h0
    have HO : Hid (∀ w', Gr w w' → Calls Tryz.prog 65 #[.agg #[.int .i64 r, .int .i64 n, .slice ad L.length cap]] w' fun e w2 => e = .returned (.int .i64 (Nt.dnO (⟨k, r, n, L, d, y⟩ : Nt))) ∧ Gr w' w2) := fun w' g => by
      have := org_any r n L ad cap w' (hL.gr g) hn
      rw [org_up hi] at this
      exact this
    have HU : Hid (∀ (w' : World) (ad2 : Option Addr) (cap2 : Nat), HopsAt w' ad2 L.dropLast → Calls Tryz.prog 65 #[.agg #[.int .i64 r, .int .i64 n, .slice ad2 L.dropLast.length cap2]] w' fun e w2 => e = .returned (.int .i64 (Nt.upO (⟨k, r, n, L, d, y⟩ : Nt))) ∧ Gr w' w2) := fun w' ad2 cap2 h => by
      have := org_any r n L.dropLast ad2 cap2 w' h (by rw [List.length_dropLast]; omega)
      rw [org_up hdrop] at this
      exact this
    generalize Nt.upO (⟨k, r, n, L, d, y⟩ : Nt) = U at *
    generalize Nt.dnO (⟨k, r, n, L, d, y⟩ : Nt) = V at *
    generalize L.dropLast = M at *
    clear hL hm hi h0 hdrop hn hd hc
    go_enter Tryz.func44, Tryz.ntmps44
    go_wp2_with fail
    refine (HC.out _ (by repeat(first|exact Gr.r _|refine Gr.a ?_|refine Gr.d ?_|refine Gr.t ?_ (by assumption)))).mono ?_
    rintro e1 w1 ⟨rfl, hg1⟩
    have B1 := (Cs.new w [.int .i64 k, .int .i64 r, .int .i64 n, .slice ad L.length cap, .string d, .int .i64 y] 36 _ rfl).gr hg1
    have c0 := B1.at_ 0 _ rfl
    have c1 := B1.at_ 1 _ rfl
    have c2 := B1.at_ 2 _ rfl
    have c3 := B1.at_ 3 _ rfl
    have clt := B1.lt
    go_wp2_with fail
    refine (HP.out _ ?_).mono ?_
    · exact (by repeat(first|exact Gr.r _|refine Gr.a ?_|refine Gr.d ?_|refine Gr.t ?_ (by assumption)))
    rintro e2 w2 ⟨ad2, cap2, s, rfl, hia, hg2⟩
    have B2 := B1.gr hg2
    have HI : Hid (HopsAt w2 ad2 M) := hia
    have hgw : Gr w w2 := (by repeat(first|exact Gr.r _|refine Gr.a ?_|refine Gr.d ?_|refine Gr.t ?_ (by assumption)))
    have p0 := B2.at_ 0 _ rfl
    have p1 := B2.at_ 1 _ rfl
    have p2 := B2.at_ 2 _ rfl
    have p3 := B2.at_ 3 _ rfl
    have plt := B2.lt
    clear c0 c1 c2 c3 clt hg1 hg2 hia B1
    have D2 := Cs.new w2 [.int .i64 r, .int .i64 n, .slice ad2 M.length cap2] 34 _ rfl
    have q0 := D2.at_ 0 _ rfl
    have q1 := D2.at_ 1 _ rfl
    have q2 := D2.at_ 2 _ rfl
    have qlt := D2.lt
    have r1 := B2.alloc (o := .cells #[.int .i64 r, .int .i64 n, .slice ad2 M.length cap2] 34) |>.at_ 1 _ rfl
    have r2 := B2.alloc (o := .cells #[.int .i64 r, .int .i64 n, .slice ad2 M.length cap2] 34) |>.at_ 2 _ rfl
    have r3 := B2.alloc (o := .cells #[.int .i64 r, .int .i64 n, .slice ad2 M.length cap2] 34) |>.at_ 3 _ rfl
    have r0 := B2.alloc (o := .cells #[.int .i64 r, .int .i64 n, .slice ad2 M.length cap2] 34) |>.at_ 0 _ rfl
    go_wp2
    have hgx : Gr w (w2.alloc (.cells #[.int .i64 r, .int .i64 n, .slice ad2 M.length cap2] 34)) := hgw.alloc
    have HI2 : Hid (HopsAt (w2.alloc (.cells #[.int .i64 r, .int .i64 n, .slice ad2 M.length cap2] 34)) ad2 M) := HI.out.alloc
    generalize w2.alloc (.cells #[.int .i64 r, .int .i64 n, .slice ad2 M.length cap2] 34) = w3 at *
    clear p0 p1 p2 p3 HI D2 B2
    go_region_held3 (fun w' => Gr w3 w' ∧ w'.cell? ⟨w.heap.size, 0, none⟩ = some (.int .i64 k) ∧ w'.cell? ⟨w.heap.size, 1, none⟩ = some (.int .i64 r) ∧ w'.cell? ⟨w.heap.size, 2, none⟩ = some (.int .i64 n) ∧ w'.cell? ⟨w.heap.size, 3, none⟩ = some (.slice ad L.length cap) ∧ w'.cell? ⟨w2.heap.size, 0, none⟩ = some (.int .i64 r) ∧ w'.cell? ⟨w2.heap.size, 1, none⟩ = some (.int .i64 n) ∧ w'.cell? ⟨w2.heap.size, 2, none⟩ = some (.slice ad2 M.length cap2))
      ((go_split_ands; exact ⟨(by repeat(first|exact Gr.r _|refine Gr.a ?_|refine Gr.d ?_|refine Gr.t ?_ (by assumption))), Gr.keep (W := w3) (by repeat(first|exact Gr.r _|refine Gr.a ?_|refine Gr.d ?_|refine Gr.t ?_ (by assumption))) r0, Gr.keep (W := w3) (by repeat(first|exact Gr.r _|refine Gr.a ?_|refine Gr.d ?_|refine Gr.t ?_ (by assumption))) r1, Gr.keep (W := w3) (by repeat(first|exact Gr.r _|refine Gr.a ?_|refine Gr.d ?_|refine Gr.t ?_ (by assumption))) r2, Gr.keep (W := w3) (by repeat(first|exact Gr.r _|refine Gr.a ?_|refine Gr.d ?_|refine Gr.t ?_ (by assumption))) r3, Gr.keep (W := w3) (by repeat(first|exact Gr.r _|refine Gr.a ?_|refine Gr.d ?_|refine Gr.t ?_ (by assumption))) q0, Gr.keep (W := w3) (by repeat(first|exact Gr.r _|refine Gr.a ?_|refine Gr.d ?_|refine Gr.t ?_ (by assumption))) q1, Gr.keep (W := w3) (by repeat(first|exact Gr.r _|refine Gr.a ?_|refine Gr.d ?_|refine Gr.t ?_ (by assumption))) q2⟩))
      ((first | (go_at_call_of 65 (Value.agg #[.int .i64 r, .int .i64 n, .slice ad2 M.length cap2]); refine (HU.out _ ad2 cap2 ?_).mono ?_; (go_split_ands; exact HI2.out.gr (by repeat(first|exact Gr.r _|refine Gr.a ?_|refine Gr.d ?_|refine Gr.t ?_ (by assumption)))); rintro e w4 ⟨rfl, hg4⟩; go_split_ands; have s0 : w4.cell? ⟨w.heap.size, 0, none⟩ = some (.int .i64 k) := (Gr.keep (W := w3) (by repeat(first|exact Gr.r _|refine Gr.a ?_|refine Gr.d ?_|refine Gr.t ?_ (by assumption))) r0)) | (go_at_call 65; refine (HO.out _ ?_).mono ?_; (go_split_ands; exact (by repeat(first|exact Gr.r _|refine Gr.a ?_|refine Gr.d ?_|refine Gr.t ?_ (by assumption)))); rintro e w5 ⟨rfl, hg5⟩; go_split_ands; have t0 : w5.cell? ⟨w.heap.size, 0, none⟩ = some (.int .i64 k) := (Gr.keep (W := w3) (by repeat(first|exact Gr.r _|refine Gr.a ?_|refine Gr.d ?_|refine Gr.t ?_ (by assumption))) r0))))
    all_goals
      by_cases hk4 : k ≤ 4
      · rw [if_pos hk4] at HE1 HE2
        go_wp2
        go_ret2
        exact ⟨by rw [HE1.out, HE2.out]; rfl, (by repeat(first|exact Gr.r _|refine Gr.a ?_|refine Gr.d ?_|refine Gr.t ?_ (by assumption)))⟩
      · rw [if_neg hk4] at HE1 HE2
        go_wp2
        go_ret2
        exact ⟨by rw [HE1.out, HE2.out]; rfl, (by repeat(first|exact Gr.r _|refine Gr.a ?_|refine Gr.d ?_|refine Gr.t ?_ (by assumption)))⟩
  · rw [if_neg hm] at HC HE1 HE2
    clear hL hm
    go_enter Tryz.func44, Tryz.ntmps44
    go_wp2_with fail
    refine (HC.out _ (by repeat(first|exact Gr.r _|refine Gr.a ?_|refine Gr.d ?_|refine Gr.t ?_ (by assumption)))).mono ?_
    rintro e1 w1 ⟨rfl, hg1⟩
    go_wp2
    go_ret2
    exact ⟨by rw [HE1.out, HE2.out]; rfl, (by repeat(first|exact Gr.r _|refine Gr.a ?_|refine Gr.d ?_|refine Gr.t ?_ (by assumption)))⟩
end Go.Proofs.YthfbpilfdfploaaGreat
namespace Go.Proofs.YthfbpilfdfploaaGreat
open Go.RowKit

theorem number_any (x y : Int) (w : World) : Calls Tryz.prog 84 #[.int .i64 x, .int .i64 y] w fun e w' => e = .returned (.int .i64 (Idn.cmpI x y)) ∧ w' = w := by
  by_cases h : x < y
  · have HE : Hid (Idn.cmpI x y = -1) := by show _ = _; simp [Idn.cmpI, h]
    go_enter Tryz.func84, Tryz.ntmps84
    go_wp2
    go_ret
    exact ⟨by rw [HE.out]; rfl, rfl⟩
  · by_cases h2 : y < x
    · have HE : Hid (Idn.cmpI x y = 1) := by show _ = _; simp [Idn.cmpI, h, h2]
      go_enter Tryz.func84, Tryz.ntmps84
      go_wp2
      go_ret
      exact ⟨by rw [HE.out]; rfl, rfl⟩
    · have HE : Hid (Idn.cmpI x y = 0) := by show _ = _; simp [Idn.cmpI, h, h2]
      go_enter Tryz.func84, Tryz.ntmps84
      go_wp2
      go_ret
      exact ⟨by rw [HE.out]; rfl, rfl⟩

set_option maxHeartbeats 2000000 in
set_option maxRecDepth 100000 in
theorem refCmp_any (r n : Int) (L : List (Int × Int)) (ad : Option Addr) (cap : Nat) (r2 n2 : Int) (M : List (Int × Int)) (ad2 : Option Addr) (cap2 : Nat) (w : World) (hL : HopsAt w ad L) (hM : HopsAt w ad2 M) (hn : L.length ≤ 9223372036854775807) (hm : M.length ≤ 9223372036854775807) :
    Calls Tryz.prog 58 #[.agg #[.int .i64 r, .int .i64 n, .slice ad L.length cap], .agg #[.int .i64 r2, .int .i64 n2, .slice ad2 M.length cap2]] w fun e w' => e = .returned (.int .i64 (Idn.cmpE r n L r2 n2 M)) ∧ Gr w w' := by
  have HC : Hid (∀ (a b : Int) (w' : World), Calls Tryz.prog 84 #[.int .i64 a, .int .i64 b] w' fun e w2 => e = .returned (.int .i64 (Idn.cmpI a b)) ∧ w2 = w') := number_any
  have HL : Hid (HopsAt w ad L) := hL
  have HM : Hid (HopsAt w ad2 M) := hM
  clear hL hM
  by_cases h1 : r = r2
  · subst h1
    have hr : (r != r) = false := by simp
    by_cases h2 : n = n2
    · subst h2
      have hr2 : (n != n) = false := by simp
      have HE : Hid (Idn.cmpE r n L r n M = Idn.cmpH L M) := by
        show _ = _
        rw [Idn.cmpE, (Idn.cmpI_zero r r).2 rfl, (Idn.cmpI_zero n n).2 rfl]; rfl
      go_enter Tryz.func58, Tryz.ntmps58
      go_wp2
      go_loopw [5] (fun i wr => ∃ k : Nat, k ≤ L.length ∧ k ≤ M.length ∧ i = .int .i64 k ∧ Idn.cmpH L M = Idn.cmpH (L.drop k) (M.drop k) ∧ Gr w wr ∧ w.heap.size + 1 < wr.heap.size ∧ wr.cell? ⟨w.heap.size, 2, none⟩ = some (.slice ad L.length cap) ∧ wr.cell? ⟨w.heap.size + 1, 2, none⟩ = some (.slice ad2 M.length cap2)) (fun i _ => L.length - (intOf i).toNat)
      case atStart => exact ⟨0, by omega, by omega, rfl, rfl, (by repeat(first|exact Gr.r _|refine Gr.a ?_|refine Gr.d ?_|refine Gr.t ?_ (by assumption))), by simp, by simp, by simp⟩
      case round =>
        obtain ⟨k, hk, hk2, rfl, hp, hg, hsz, q1, q2⟩ := hrel
        have HP : Hid (Idn.cmpH L M = Idn.cmpH (L.drop k) (M.drop k)) := hp
        have hsz0 : w.heap.size < wr.heap.size := by omega
        clear hp
        by_cases hlt : k < L.length
        · by_cases hlt2 : k < M.length
          · obtain ⟨b, off, rfl, hbl, hc, hd⟩ := HL.out k hlt
            obtain ⟨b2, off2, rfl, hbl2, hc2, hd2⟩ := HM.out k hlt2
            have hc' := hg.keep hc
            have hd' := hg.keep hd
            have hc2' := hg.keep hc2
            have hd2' := hg.keep hd2
            have HP2 : Hid (Idn.cmpH L M = Idn.orI (Idn.cmpP L[k] M[k]) (Idn.cmpH (L.drop (k + 1)) (M.drop (k + 1)))) := by
              show _ = _
              rw [HP.out, List.drop_eq_getElem_cons hlt, List.drop_eq_getElem_cons hlt2]; rfl
            obtain ⟨⟨x1, x2⟩, hx⟩ : ∃ h, L[k] = h := ⟨_, rfl⟩
            obtain ⟨⟨y1, y2⟩, hy⟩ : ∃ h, M[k] = h := ⟨_, rfl⟩
            rw [hx] at hc' hd' HP2
            rw [hy] at hc2' hd2' HP2
            have hki : (k : Int) < L.length := by omega
            have hki2 : (k : Int) < M.length := by omega
            clear hc2 hd2 hx hy HP HL HM hc hd
            have hbw : b < wr.heap.size := Nat.lt_of_lt_of_le hbl hg.size
            have hbw2 : b2 < wr.heap.size := Nat.lt_of_lt_of_le hbl2 hg.size
            by_cases e1 : x1 = y1
            · subst e1
              have he1 : (x1 != x1) = false := by simp
              by_cases e2 : x2 = y2
              · subst e2
                have he2 : (x2 != x2) = false := by simp
                have HF : Hid (Idn.cmpH L M = Idn.cmpH (L.drop (k + 1)) (M.drop (k + 1))) := by show _ = _; rw [HP2.out, (Idn.cmpP_zero _ _).2 rfl]; rfl
                clear HP2
                go_wp2
                go_region
                all_goals go_wp2
                all_goals
                  go_roundw
                  case rel => exact ⟨k + 1, by omega, by omega, by go_num, HF.out, (by repeat(first|exact Gr.r _|refine Gr.a ?_|refine Gr.d ?_|refine Gr.t ?_ (by assumption))), by simp; omega, by simp [World.cell?_alloc_some, q1], by simp [World.cell?_alloc_some, q2]⟩
                  case measure => simp [intOf]; omega
              · have he2 : (x2 != y2) = true := by rw [bne_iff_ne]; exact e2
                have HF : Hid (Idn.cmpH L M = Idn.cmpI x2 y2) := by
                  show _ = _
                  have : Idn.cmpI x2 y2 ≠ 0 := fun h => e2 ((Idn.cmpI_zero _ _).1 h)
                  rw [HP2.out, Idn.cmpP, (Idn.cmpI_zero x1 x1).2 rfl, Idn.orI_self_zero, Idn.orI, if_neg this]
                clear HP2
                go_wp2
                go_region
                all_goals
                  go_wp2_with fail
                  refine (HC.out _ _ _).mono ?_
                  rintro e1 w1 ⟨rfl, hw1⟩; obtain rfl := hw1.symm
                  go_wp2
                  go_ret
                  exact ⟨by rw [HE.out, HF.out]; rfl, (by repeat(first|exact Gr.r _|refine Gr.a ?_|refine Gr.d ?_|refine Gr.t ?_ (by assumption)))⟩
            · have he1 : (x1 != y1) = true := by rw [bne_iff_ne]; exact e1
              have HF : Hid (Idn.cmpH L M = Idn.cmpI x1 y1) := by
                show _ = _
                have : Idn.cmpI x1 y1 ≠ 0 := fun h => e1 ((Idn.cmpI_zero _ _).1 h)
                have h3 : Idn.cmpP (x1, x2) (y1, y2) = Idn.cmpI x1 y1 := by rw [Idn.cmpP, Idn.orI, if_neg this]
                rw [HP2.out, h3, Idn.orI, if_neg this]
              clear HP2
              go_wp2
              go_region
              all_goals
                go_wp2_with fail
                refine (HC.out _ _ _).mono ?_
                rintro e1 w1 ⟨rfl, hw1⟩; obtain rfl := hw1.symm
                go_wp2
                go_ret
                exact ⟨by rw [HE.out, HF.out]; rfl, (by repeat(first|exact Gr.r _|refine Gr.a ?_|refine Gr.d ?_|refine Gr.t ?_ (by assumption)))⟩
          · have HF : Hid (Idn.cmpH L M = 1) := by
              show _ = _
              rw [HP.out, List.drop_eq_getElem_cons hlt, dropN M k (by omega)]; rfl
            have HF2 : Hid (Idn.cmpI L.length M.length = 1) := by show _ = _; unfold Idn.cmpI; rw [if_neg (by omega), if_pos (by omega)]
            go_wp2_with fail
            refine (HC.out _ _ _).mono ?_
            rintro e1 w1 ⟨rfl, hw1⟩; obtain rfl := hw1.symm
            go_wp2
            go_ret
            exact ⟨by rw [HE.out, HF.out, ← HF2.out]; rfl, (by repeat(first|exact Gr.r _|refine Gr.a ?_|refine Gr.d ?_|refine Gr.t ?_ (by assumption)))⟩
        · have HF : Hid (Idn.cmpH L M = Idn.cmpI L.length M.length) := by
            show _ = _
            rw [HP.out, dropN L k (by omega)]
            by_cases hlt2 : k < M.length
            · rw [List.drop_eq_getElem_cons hlt2]; unfold Idn.cmpI; rw [if_pos (by omega)]; rfl
            · rw [dropN M k (by omega)]; unfold Idn.cmpI; rw [if_neg (by omega), if_neg (by omega)]; rfl
          go_wp2_with fail
          refine (HC.out _ _ _).mono ?_
          rintro e1 w1 ⟨rfl, hw1⟩; obtain rfl := hw1.symm
          go_wp2
          go_ret
          exact ⟨by rw [HE.out, HF.out]; rfl, (by repeat(first|exact Gr.r _|refine Gr.a ?_|refine Gr.d ?_|refine Gr.t ?_ (by assumption)))⟩
    · have hne : (n != n2) = true := by rw [bne_iff_ne]; exact h2
      have HE : Hid (Idn.cmpE r n L r n2 M = Idn.cmpI n n2) := by
        show _ = _
        have : Idn.cmpI n n2 ≠ 0 := fun h => h2 ((Idn.cmpI_zero n n2).1 h)
        rw [Idn.cmpE, (Idn.cmpI_zero r r).2 rfl, Idn.orI_self_zero, Idn.orI, if_neg this]
      clear HL HM
      go_enter Tryz.func58, Tryz.ntmps58
      go_wp2_with fail
      refine (HC.out _ _ _).mono ?_
      rintro e1 w1 ⟨rfl, hw1⟩; obtain rfl := hw1.symm
      go_wp2
      go_ret
      exact ⟨by rw [HE.out]; rfl, (by repeat(first|exact Gr.r _|refine Gr.a ?_|refine Gr.d ?_|refine Gr.t ?_ (by assumption)))⟩
  · have hne : (r != r2) = true := by rw [bne_iff_ne]; exact h1
    have HE : Hid (Idn.cmpE r n L r2 n2 M = Idn.cmpI r r2) := by
      show _ = _
      have : Idn.cmpI r r2 ≠ 0 := fun h => h1 ((Idn.cmpI_zero r r2).1 h)
      rw [Idn.cmpE, Idn.orI, if_neg this]
    clear HL HM
    go_enter Tryz.func58, Tryz.ntmps58
    go_wp2_with fail
    refine (HC.out _ _ _).mono ?_
    rintro e1 w1 ⟨rfl, hw1⟩; obtain rfl := hw1.symm
    go_wp2
    go_ret
    exact ⟨by rw [HE.out]; rfl, (by repeat(first|exact Gr.r _|refine Gr.a ?_|refine Gr.d ?_|refine Gr.t ?_ (by assumption)))⟩

def sameB (r n : Int) (L : List (Int × Int)) (r2 n2 : Int) (M : List (Int × Int)) : Bool := decide (r = r2 ∧ n = n2 ∧ L = M)

set_option maxHeartbeats 1000000 in
set_option maxRecDepth 100000 in
theorem same_any (r n : Int) (L : List (Int × Int)) (ad : Option Addr) (cap : Nat) (r2 n2 : Int) (M : List (Int × Int)) (ad2 : Option Addr) (cap2 : Nat) (w : World) (hL : HopsAt w ad L) (hM : HopsAt w ad2 M) (hn : L.length ≤ 9223372036854775807) (hm : M.length ≤ 9223372036854775807) :
    Calls Tryz.prog 36 #[.agg #[.int .i64 r, .int .i64 n, .slice ad L.length cap], .agg #[.int .i64 r2, .int .i64 n2, .slice ad2 M.length cap2]] w fun e w' => e = .returned (.bool (sameB r n L r2 n2 M)) ∧ Gr w w' := by
  have HC : Hid (∀ w', Gr w w' → Calls Tryz.prog 58 #[.agg #[.int .i64 r, .int .i64 n, .slice ad L.length cap], .agg #[.int .i64 r2, .int .i64 n2, .slice ad2 M.length cap2]] w' fun e w2 => e = .returned (.int .i64 (Idn.cmpE r n L r2 n2 M)) ∧ Gr w' w2) := fun w' g => refCmp_any r n L ad cap r2 n2 M ad2 cap2 w' (hL.gr g) (hM.gr g) hn hm
  have hz := Idn.cmpE_zero r n L r2 n2 M
  have HS : Hid (sameB r n L r2 n2 M = (Idn.cmpE r n L r2 n2 M == 0)) := by
    show _ = _
    rw [sameB, Bool.eq_iff_iff, decide_eq_true_iff, beq_iff_eq, hz]
  generalize Idn.cmpE r n L r2 n2 M = c at *
  clear hL hM hz
  go_enter Tryz.func36, Tryz.ntmps36
  go_wp2_with fail
  refine (HC.out _ (by repeat(first|exact Gr.r _|refine Gr.a ?_|refine Gr.d ?_|refine Gr.t ?_ (by assumption)))).mono ?_
  rintro e1 w1 ⟨rfl, hg1⟩
  go_wp2
  go_ret
  exact ⟨by rw [HS.out]; rfl, (by repeat(first|exact Gr.r _|refine Gr.a ?_|refine Gr.d ?_|refine Gr.t ?_ (by assumption)))⟩
end Go.Proofs.YthfbpilfdfploaaGreat
namespace Go.Proofs.YthfbpilfdfploaaGreat
open Go.RowKit

variable {Z : Nat → Prop}
set_option maxHeartbeats 400000 in
theorem rTime_any (n : Int) (w : World) : Calls Tryz.prog 49 #[.int .i64 n] w fun e w' => e = .returned (.bool (Ox.tmB n)) ∧ w' = w := by
  have HE : Hid (Ox.tmB n = (decide (0 ≤ n) && decide (n ≤ 1000000000))) := by
    show _ = _
    unfold Ox.tmB; rw [Bool.eq_iff_iff]; simp
  generalize Ox.tmB n = R at *
  by_cases a : 0 ≤ n
  · rw [decide_eq_true a, Bool.true_and] at HE
    go_enter Tryz.func49, Tryz.ntmps49
    go_wp2
    go_ret
    exact ⟨by rw [HE.out]; rfl, rfl⟩
  · rw [decide_eq_false a, Bool.false_and] at HE
    go_enter Tryz.func49, Tryz.ntmps49
    go_wp2
    go_ret
    exact ⟨by rw [HE.out]; rfl, rfl⟩
set_option maxHeartbeats 2000000 in
set_option maxRecDepth 100000 in
theorem rSameN2_any (m m2 : Mn) (w : World) (h : MnAt Z w m) (h2 : MnAt Z w m2) :
    Calls Tryz.prog 12 #[m.v, m2.v] w fun e w' => e = .returned (.bool (decide (pk m.x = pk m2.x))) ∧ Gr w w' := by
  obtain ⟨⟨k, r, n, L, d, y⟩, ad, cap⟩ := m
  obtain ⟨⟨k2, r2, n2, M, d2, y2⟩, ad2, cap2⟩ := m2
  have HC : Hid (∀ w', Gr w w' → Calls Tryz.prog 36 #[.agg #[.int .i64 r, .int .i64 n, .slice ad L.length cap], .agg #[.int .i64 r2, .int .i64 n2, .slice ad2 M.length cap2]] w' fun e w2 => e = .returned (.bool (sameB r n L r2 n2 M)) ∧ Gr w' w2) := fun w' g => same_any r n L ad cap r2 n2 M ad2 cap2 w' (h.hp.gr g) (h2.hp.gr g) h.hl h2.hl
  have HE := Lib.hid (same_parts k r n L d y k2 r2 n2 M d2 y2 (sameB r n L r2 n2 M) rfl)
  generalize sameB r n L r2 n2 M = c at *
  clear h h2
  dsimp only [Mn.v] at *
  generalize L.length = ll at *
  generalize M.length = ml at *
  generalize decide (pk ⟨k, r, n, L, d, y⟩ = pk ⟨k2, r2, n2, M, d2, y2⟩) = R at *
  cases hk : (k == k2) with
  | false =>
    rw [hk] at HE
    go_enter Tryz.func12, Tryz.ntmps12
    go_wp2
    go_ret
    exact ⟨by rw [HE.out]; rfl, (by repeat(first|exact Gr.r _|refine Gr.a ?_|refine Gr.d ?_|refine Gr.t ?_ (by assumption)))⟩
  | true =>
    rw [hk] at HE
    go_enter Tryz.func12, Tryz.ntmps12
    go_wp2_with fail
    refine (HC.out _ ?_).mono ?_
    · exact (by repeat(first|exact Gr.r _|refine Gr.a ?_|refine Gr.d ?_|refine Gr.t ?_ (by assumption)))
    rintro e1 w1 ⟨rfl, hg1⟩
    have B1 := ((Cs.new w [.int .i64 k, .int .i64 r, .int .i64 n, .slice ad ll cap, .string d, .int .i64 y] 36 _ rfl).alloc (o := .cells #[.int .i64 k2, .int .i64 r2, .int .i64 n2, .slice ad2 ml cap2, .string d2, .int .i64 y2] 36)).gr hg1
    have D1 := (Cs.new (w.alloc (.cells #[.int .i64 k, .int .i64 r, .int .i64 n, .slice ad ll cap, .string d, .int .i64 y] 36)) [.int .i64 k2, .int .i64 r2, .int .i64 n2, .slice ad2 ml cap2, .string d2, .int .i64 y2] 36 (w.heap.size + 1) (by simp)).gr hg1
    have c4 := B1.at_ 4 _ rfl
    have c5 := B1.at_ 5 _ rfl
    have clt := B1.lt
    have d4 := D1.at_ 4 _ rfl
    have d5 := D1.at_ 5 _ rfl
    have dlt := D1.lt
    cases c with
    | false =>
      go_wp2
      go_ret
      exact ⟨by rw [HE.out]; rfl, (by repeat(first|exact Gr.r _|refine Gr.a ?_|refine Gr.d ?_|refine Gr.t ?_ (by assumption)))⟩
    | true =>
      cases hd : (d.toList == d2.toList) with
      | false =>
        rw [hd] at HE
        go_wp2
        go_ret
        exact ⟨by rw [HE.out]; rfl, (by repeat(first|exact Gr.r _|refine Gr.a ?_|refine Gr.d ?_|refine Gr.t ?_ (by assumption)))⟩
      | true =>
        rw [hd] at HE
        go_wp2
        go_ret
        exact ⟨by rw [HE.out]; rfl, (by repeat(first|exact Gr.r _|refine Gr.a ?_|refine Gr.d ?_|refine Gr.t ?_ (by assumption)))⟩

theorem hold15 {a b : World} (g : Gr a b) {v0 v1 v2 v3 v4 v5 u0 u1 u2 u3 u4 u5 : Value} {p0 p1 p2 p3 p4 p5 q0 q1 q2 q3 q4 q5 : Addr} (h0 : a.cell? p0 = some v0) (h1 : a.cell? p1 = some v1) (h2 : a.cell? p2 = some v2) (h3 : a.cell? p3 = some v3) (h4 : a.cell? p4 = some v4) (h5 : a.cell? p5 = some v5) (k0 : a.cell? q0 = some u0) (k1 : a.cell? q1 = some u1) (k2 : a.cell? q2 = some u2) (k3 : a.cell? q3 = some u3) (k4 : a.cell? q4 = some u4) (k5 : a.cell? q5 = some u5) :
    Gr a b ∧ b.cell? p0 = some v0 ∧ b.cell? p1 = some v1 ∧ b.cell? p2 = some v2 ∧ b.cell? p3 = some v3 ∧ b.cell? p4 = some v4 ∧ b.cell? p5 = some v5 ∧ b.cell? q0 = some u0 ∧ b.cell? q1 = some u1 ∧ b.cell? q2 = some u2 ∧ b.cell? q3 = some u3 ∧ b.cell? q4 = some u4 ∧ b.cell? q5 = some u5 :=
  ⟨g, g.keep h0, g.keep h1, g.keep h2, g.keep h3, g.keep h4, g.keep h5, g.keep k0, g.keep k1, g.keep k2, g.keep k3, g.keep k4, g.keep k5⟩
set_option maxHeartbeats 8000000 in
set_option maxRecDepth 100000 in
theorem rAmong_any (D : List Mi) (m : Mn) (ad : Option Addr) (cap : Nat) (w : World) (hD : ItsAt Z w ad D) (hn : D.length ≤ 9223372036854775807) (hm : MnAt Z w m) :
    Calls Tryz.prog 50 #[.slice ad D.length cap, m.v] w fun e w' => e = .returned (.bool (Ox.among (its D) (pk m.x))) ∧ Gr w w' := by
  have HC : Hid (∀ x ∈ D, ∀ w', Gr w w' → Calls Tryz.prog 12 #[x.m.v, m.v] w' fun e w2 => e = .returned (.bool (decide (pk x.m.x = pk m.x))) ∧ Gr w' w2) := fun x hx w' gr => rSameN2_any x.m m w' ((hD.nt x hx).gr gr) (hm.gr gr)
  have HD := Lib.hid hD.row
  have HA : Hid (∀ (j : Nat) (hj : j < D.length), pk D[j].m.x = pk m.x → Ox.among (its D) (pk m.x) = true) := fun j hj e => (among_its D _).2 ⟨j, hj, e⟩
  have HN : Hid ((∀ (j : Nat) (hj : j < D.length), pk D[j].m.x ≠ pk m.x) → Ox.among (its D) (pk m.x) = false) := among_no
  generalize Ox.among (its D) (pk m.x) = R at *
  generalize hp : pk m.x = p at *
  clear hD hm hp
  obtain ⟨⟨k2, r2, n2, M, d2, y2⟩, ad2, cap2⟩ := m
  dsimp only [Mn.v] at *
  generalize M.length = ml at *
  have HB0 := Lib.hid (Cs.new w [.int .i64 k2, .int .i64 r2, .int .i64 n2, .slice ad2 ml cap2, .string d2, .int .i64 y2] 36 _ rfl)
  go_enter Tryz.func50, Tryz.ntmps50
  go_wp2
  go_loopw [5] (fun s5 wr => ∃ j : Nat, s5 = .int .i64 j ∧ j ≤ D.length ∧ (∀ (i : Nat) (hi : i < D.length), i < j → pk D[i].m.x ≠ p) ∧ Gr (w.alloc (.cells #[.int .i64 k2, .int .i64 r2, .int .i64 n2, .slice ad2 ml cap2, .string d2, .int .i64 y2] 36)) wr) (fun s5 _ => D.length - (intOf s5).toNat)
  case atStart => exact ⟨0, rfl, Nat.zero_le _, fun i _ h => absurd h (Nat.not_lt_zero _), Gr.refl _⟩
  case round =>
    obtain ⟨j, rfl, hj, hno, hg'⟩ := hrel
    have HNO := Lib.hid hno
    have hg : Gr w wr := (Gr.refl w).alloc.trans hg'
    have HG := Lib.hid hg
    have HG' := Lib.hid hg'
    have B0 := HB0.out.gr hg'
    have c0 := B0.at_ 0 _ rfl
    have c1 := B0.at_ 1 _ rfl
    have c2 := B0.at_ 2 _ rfl
    have c3 := B0.at_ 3 _ rfl
    have c4 := B0.at_ 4 _ rfl
    have c5 := B0.at_ 5 _ rfl
    have cf0 := B0.fz 0 (by simp)
    have cf1 := B0.fz 1 (by simp)
    have cf2 := B0.fz 2 (by simp)
    have cf3 := B0.fz 3 (by simp)
    have cf4 := B0.fz 4 (by simp)
    have cf5 := B0.fz 5 (by simp)
    have clt := B0.lt
    clear hno B0 cf0 cf1 cf2 cf3 cf4 cf5 hg'
    by_cases hlt : j < D.length
    · obtain ⟨b, off, rfl, hbl, d0, d1, d2', d3, d4, d5, d6, d7, d8⟩ := ItsRow.at HD.out j hlt
      have d3 := hg.keep d3
      have d4 := hg.keep d4
      have d5 := hg.keep d5
      have d6 := hg.keep d6
      have d7 := hg.keep d7
      have d8 := hg.keep d8
      have hbw : b < wr.heap.size := Nat.lt_of_lt_of_le hbl hg.size
      have hji : (j : Int) < (D.length : Int) := by omega
      have hj0 : (0 : Int) ≤ (j : Int) := by omega
      have HX := Lib.hid (HC.out D[j] (List.getElem_mem hlt))
      have HY : Hid (pk D[j].m.x = p → R = true) := HA.out j hlt
      have HZ : Hid (¬ pk D[j].m.x = p → ∀ (i : Nat) (hi : i < D.length), i < j + 1 → pk D[i].m.x ≠ p) := by
        intro h i hi hij
        by_cases e : i = j
        · subst e; exact h
        · exact HNO.out i hi (by omega)
      clear hg d0 d1 d2'
      generalize D[j] = x at *
      by_cases hq : pk x.m.x = p
      · rw [decide_eq_true hq] at HX
        have HR := Lib.hid (HY.out hq)
        clear HY HZ hq
        obtain ⟨q, dd, s, ⟨⟨k, r, n, L, d, y⟩, ad, cap⟩⟩ := x
        dsimp only [Mn.v, Mi.v] at *
        generalize L.length = ll at *
        go_wp2_with fail
        refine wp_region_held_drew (S := (fun w' => Gr wr w' ∧ w'.cell? ⟨b, off + j * 9 + 3, none⟩ = some (.int .i64 k) ∧ w'.cell? ⟨b, off + j * 9 + 4, none⟩ = some (.int .i64 r) ∧ w'.cell? ⟨b, off + j * 9 + 5, none⟩ = some (.int .i64 n) ∧ w'.cell? ⟨b, off + j * 9 + 6, none⟩ = some (.slice ad ll cap) ∧ w'.cell? ⟨b, off + j * 9 + 7, none⟩ = some (.string d) ∧ w'.cell? ⟨b, off + j * 9 + 8, none⟩ = some (.int .i64 y) ∧ w'.cell? ⟨w.heap.size, 0, none⟩ = some (.int .i64 k2) ∧ w'.cell? ⟨w.heap.size, 1, none⟩ = some (.int .i64 r2) ∧ w'.cell? ⟨w.heap.size, 2, none⟩ = some (.int .i64 n2) ∧ w'.cell? ⟨w.heap.size, 3, none⟩ = some (.slice ad2 ml cap2) ∧ w'.cell? ⟨w.heap.size, 4, none⟩ = some (.string d2) ∧ w'.cell? ⟨w.heap.size, 5, none⟩ = some (.int .i64 y2))) (by kernel_rfl) (by exact hold15 (by repeat(first|exact Gr.r _|refine Gr.a ?_|refine Gr.d ?_|refine Gr.t ?_ (by assumption))) d3 d4 d5 d6 d7 d8 c0 c1 c2 c3 c4 c5) (fun hHeld => ?_)
        refine ty 0 12 hHeld ?_
        refine ty 1 13 hHeld ?_
        refine ty 2 14 hHeld ?_
        refine ty 3 15 hHeld ?_
        refine ty 4 16 hHeld ?_
        refine ty 5 17 hHeld ?_
        refine wpAnyH_ready (rs := [6]) (by kernel_rfl) (by simp) (AllReadyH.cons rfl (fun K hK => ?_) AllReadyH.nil)
        go_simp
        (go_at_call 12; refine (HX.out _ (HG.out.trans hHeld.1)).mono ?_; rintro e wn ⟨rfl, hgn⟩)
        (try go_wp2_with fail)
        refine hK.out _ _ (by exact hold15 (by repeat(first|exact Gr.r _|refine Gr.a ?_|refine Gr.d ?_|refine Gr.t ?_ (by assumption))) d3 d4 d5 d6 d7 d8 c0 c1 c2 c3 c4 c5) (fun hHeldN => ?_)
        clear hHeld hK K
        have hHeld := hHeldN
        clear hHeldN
        refine wpAnyH_done (by kernel_rfl) ?_ _
        go_wp2
        go_ret
        exact ⟨by rw [HR.out]; rfl, HG.out.trans hHeld.1⟩
      · rw [decide_eq_false hq] at HX
        have HR := Lib.hid (HZ.out hq)
        clear HY HZ hq
        obtain ⟨q, dd, s, ⟨⟨k, r, n, L, d, y⟩, ad, cap⟩⟩ := x
        dsimp only [Mn.v, Mi.v] at *
        generalize L.length = ll at *
        go_wp2_with fail
        refine wp_region_held_drew (S := (fun w' => Gr wr w' ∧ w'.cell? ⟨b, off + j * 9 + 3, none⟩ = some (.int .i64 k) ∧ w'.cell? ⟨b, off + j * 9 + 4, none⟩ = some (.int .i64 r) ∧ w'.cell? ⟨b, off + j * 9 + 5, none⟩ = some (.int .i64 n) ∧ w'.cell? ⟨b, off + j * 9 + 6, none⟩ = some (.slice ad ll cap) ∧ w'.cell? ⟨b, off + j * 9 + 7, none⟩ = some (.string d) ∧ w'.cell? ⟨b, off + j * 9 + 8, none⟩ = some (.int .i64 y) ∧ w'.cell? ⟨w.heap.size, 0, none⟩ = some (.int .i64 k2) ∧ w'.cell? ⟨w.heap.size, 1, none⟩ = some (.int .i64 r2) ∧ w'.cell? ⟨w.heap.size, 2, none⟩ = some (.int .i64 n2) ∧ w'.cell? ⟨w.heap.size, 3, none⟩ = some (.slice ad2 ml cap2) ∧ w'.cell? ⟨w.heap.size, 4, none⟩ = some (.string d2) ∧ w'.cell? ⟨w.heap.size, 5, none⟩ = some (.int .i64 y2))) (by kernel_rfl) (by exact hold15 (by repeat(first|exact Gr.r _|refine Gr.a ?_|refine Gr.d ?_|refine Gr.t ?_ (by assumption))) d3 d4 d5 d6 d7 d8 c0 c1 c2 c3 c4 c5) (fun hHeld => ?_)
        refine ty 0 12 hHeld ?_
        refine ty 1 13 hHeld ?_
        refine ty 2 14 hHeld ?_
        refine ty 3 15 hHeld ?_
        refine ty 4 16 hHeld ?_
        refine ty 5 17 hHeld ?_
        refine wpAnyH_ready (rs := [6]) (by kernel_rfl) (by simp) (AllReadyH.cons rfl (fun K hK => ?_) AllReadyH.nil)
        go_simp
        (go_at_call 12; refine (HX.out _ (HG.out.trans hHeld.1)).mono ?_; rintro e wn ⟨rfl, hgn⟩)
        (try go_wp2_with fail)
        refine hK.out _ _ (by exact hold15 (by repeat(first|exact Gr.r _|refine Gr.a ?_|refine Gr.d ?_|refine Gr.t ?_ (by assumption))) d3 d4 d5 d6 d7 d8 c0 c1 c2 c3 c4 c5) (fun hHeldN => ?_)
        clear hHeld hK K
        have hHeld := hHeldN
        clear hHeldN
        refine wpAnyH_done (by kernel_rfl) ?_ _
        have HG2 := Lib.hid (HG'.out.trans hHeld.1)
        clear hHeld d3 d4 d5 d6 d7 d8
        go_wp2
        go_roundw
        case rel => exact ⟨j + 1, by go_num, by omega, HR.out, HG2.out⟩
        case measure => simp [intOf]; omega
    · have hge : ¬ ((j : Int) < (D.length : Int)) := by omega
      have HR := Lib.hid (HN.out (fun i hi => HNO.out i hi (by omega)))
      clear hg
      go_wp2
      go_ret
      exact ⟨by rw [HR.out]; rfl, HG.out⟩
end Go.Proofs.YthfbpilfdfploaaGreat
namespace Go.Proofs.YthfbpilfdfploaaGreat

theorem append_gone {P : Program} {w : World} {ops : Array Oper} {rest : List Oper} {o : Oper} {a : Act} {Q : Exit → Act → World → Prop} (hgd : o.guard = none) (s x : Operand) (t : TypeId)
    (ho : o.op = .call { callee := .builtin .append, args := #[s, x], argTypes := #[t, t] })
    (base : Nat) (e : TypeId) (i : TypeInfo) (size : Nat) (ht : P.underlying t = some (.slice e)) (hi : P.info? e = some i)
    (v : Value) (n : Nat) (xs : List Value) (hs : a.eval s = v) (hown : w.ownsRow base e size v n xs) (c : Nat) (hx : a.eval x = .slice none 0 c)
    (h : wpList P ops Q rest (a.put o.dst v) w) : wpList P ops Q (o :: rest) a w := by
  refine wpList_plain hgd fun K hK => ?_
  have hrun : (Builtin.append_ #[t, t] o.type #[v, .slice none 0 c]).run P w = .ok v w := by
    rcases hown.2 with ⟨rfl, rfl⟩ | ⟨g, cap, cur, rfl, _, _, hnc, _⟩
    · simp [Builtin.append_, run_underlying ht, sizeOf, typeInfo, hi, Builtin.lenOf, Builtin.firstCells]
    · simp [Builtin.append_, run_underlying ht, sizeOf, typeInfo, hi, Builtin.lenOf, Builtin.firstCells, hnc, storeCells]
  unfold Oper.wp
  simp [execOp, ho, resolve, invoke, builtin, hs, hx, hrun, Result.andThen]
  exact hK _ _ h
end Go.Proofs.YthfbpilfdfploaaGreat
namespace Go.Proofs.YthfbpilfdfploaaGreat
open Go.RowKit

set_option maxHeartbeats 1000000 in
set_option maxRecDepth 100000 in
theorem refDelay_any (n : Int) (w : World) :
    Calls Tryz.prog 60 #[.int .i64 n] w fun e w' => e = .returned (.int .i64 (Bo.delE n)) ∧ w' = w := by
  by_cases h0 : n < 1
  · have HE : Hid (Bo.delE n = 1) := Bo.del_base h0
    go_enter Tryz.func60, Tryz.ntmps60
    go_wp2
    go_ret
    exact ⟨by rw [HE.out]; rfl, rfl⟩
  · by_cases h1 : n = 1
    · subst h1
      go_enter Tryz.func60, Tryz.ntmps60
      go_wp2
      go_ret
      exact ⟨rfl, rfl⟩
    · by_cases h2 : n = 2
      · subst h2
        go_enter Tryz.func60, Tryz.ntmps60
        go_wp2
        go_ret
        exact ⟨rfl, rfl⟩
      · have HE : Hid (Bo.delE n = 8) := Bo.del_cap (by omega)
        go_enter Tryz.func60, Tryz.ntmps60
        go_wp2
        go_ret
        exact ⟨by rw [HE.out]; rfl, rfl⟩

end Go.Proofs.YthfbpilfdfploaaGreat
