/- Parts of these proofs, laid together. -/
import Derived.Test.YthfbpilfdfploaaGE
import Derived.Test.YthfbpilfdfploaaGA
import Derived.Test.YthfbpilfdfploaaGB
import Derived.BigQuiet
import Derived.Deep.QuietTactic
import Derived.Test.YthfbpilfdfploaaGD
import Derived.Laws.OwnMore
import Derived.Tactics
import Derived.Test.YthfbpilfdfploaaGC
import Derived.Test.YthfbpilfdfploaaShelf
import Derived.Laws.AppendOwnNone
import Derived.Test.YthfbpilfdfploaaRows
import Derived.ProofKit
import Derived.OpenShut
import Derived.Deep.SlicePairs
import Derived.Deep.Strs
namespace Go.Proofs.Ythfbpilfdfploaa
open Go.RowKit

variable {Z : Nat → Prop}
set_option maxHeartbeats 1000000 in
theorem closeDue_any (x : Mi) (z : Int) (g : Nat) (w : World) (hb : w.cell? ⟨g, 0, none⟩ = some (.int .i64 z)) :
    Calls Try.prog 69 #[x.v, .pointer (some ⟨g, 0, none⟩)] w fun e w' => e = .returned (.bool (decide (x.d ≤ z))) ∧ Gr w w' := by
  obtain ⟨q, dd, s, ⟨⟨k, r, n, L, d, y⟩, ad, cap⟩⟩ := x
  have clt := World.block_lt_of_cell? w _ hb
  dsimp only [Mn.v, Mi.v] at *
  generalize L.length = ll at *
  go_enter Try.func69, Try.ntmps69
  go_wp2
  go_ret
  exact ⟨rfl, (by repeat(first|exact Gr.r _|refine Gr.a ?_|refine Gr.d ?_|refine Gr.t ?_ (by assumption)))⟩

set_option maxHeartbeats 8000000 in
set_option maxRecDepth 100000 in
theorem chosenDue_any (D : List Mi) (z : Int) (ad : Option Addr) (cap g : Nat) (w : World) (hD : ItsAt Z w ad D) (hn : D.length ≤ 1000) (hb : w.cell? ⟨g, 0, none⟩ = some (.int .i64 z)) :
    Calls Try.prog 50 #[.slice ad D.length cap, .func (.func 69) #[] #[.pointer (some ⟨g, 0, none⟩)]] w fun e w' => BxR Z (its (D.filter fun x => decide (x.d ≤ z))) w e w' := by
  obtain ⟨i0, hi0, hz0, hz1, hz2⟩ := info_parts infoItem
  have HC : Hid (∀ x w', Gr w w' → Calls Try.prog 69 #[Mi.v x, .pointer (some ⟨g, 0, none⟩)] w' fun e w2 => e = .returned (.bool (decide (x.d ≤ z))) ∧ Gr w' w2) := fun x w' gr => closeDue_any x z g w' (gr.keep hb)
  have HD := Lib.hid hD.row
  have HN := Lib.hid hD.nt
  clear hD hb
  go_enter Try.func50, Try.ntmps50
  go_wp2
  go_loopw [5, 10] (fun s5 s10 wr => ∃ (k : Nat) (a : Option Addr) (c : Nat) (E : List Mi), s10 = .int .i64 k ∧ s5 = .slice a E.length c ∧ k ≤ D.length ∧ E.length ≤ k ∧ E = (D.take k).filter (fun x => decide (x.d ≤ z)) ∧ Bxs Z wr w.heap.size (.slice a E.length c) E ∧ Gr w wr) (fun _ s10 _ => D.length - (intOf s10).toNat)
  case atStart => exact ⟨0, none, 0, [], rfl, rfl, Nat.zero_le _, Nat.le_refl _, by simp, Bxs.nil _ _, Gr.refl _⟩
  case round =>
    obtain ⟨k, a, c, E, rfl, rfl, hk, hE, hEl, hbx, hg⟩ := hrel
    have HG := Lib.hid hg
    have HB := Lib.hid hbx
    have HEl := Lib.hid hEl
    have HEk : Hid (E.length ≤ k) := hE
    have hEb : E.length ≤ 1000 := by omega
    clear hbx hEl hE
    by_cases hlt : k < D.length
    · obtain ⟨b, off, rfl, hbl, d0, d1, d2, d3, d4, d5, d6, d7, d8⟩ := ItsRow.at HD.out k hlt
      have d0 := hg.keep d0
      have d1 := hg.keep d1
      have d2 := hg.keep d2
      have d3 := hg.keep d3
      have d4 := hg.keep d4
      have d5 := hg.keep d5
      have d6 := hg.keep d6
      have d7 := hg.keep d7
      have d8 := hg.keep d8
      have hbw : b < wr.heap.size := Nat.lt_of_lt_of_le hbl hg.size
      have hki : (k : Int) < (D.length : Int) := by omega
      have HX := Lib.hid (HC.out D[k])
      have HNx := Lib.hid (HN.out D[k] (List.getElem_mem hlt))
      have HT : Hid ((D.take (k + 1)).filter (fun x => decide (x.d ≤ z)) = (D.take k).filter (fun x => decide (x.d ≤ z)) ++ [D[k]].filter (fun x => decide (x.d ≤ z))) := by
        show _ = _
        rw [List.take_succ_eq_append_getElem hlt, List.filter_append]
      clear hg
      generalize D[k] = x at *
      cases hp : decide (x.d ≤ z) with
      | true =>
        have HT2 : Hid ((D.take (k + 1)).filter (fun x => decide (x.d ≤ z)) = E ++ [x]) := by
          show _ = _
          rw [HT.out, ← HEl.out, List.filter_cons, hp]; rfl
        rw [hp] at HX
        clear hp HT HEl
        obtain ⟨q, dd, s, ⟨⟨k0, r, n, L, dt, y⟩, ax, cx⟩⟩ := x
        dsimp only [Mn.v, Mi.v] at *
        go_wp2_with fail
        refine (HX.out _ (HG.out.trans (by repeat(first|exact Gr.r _|refine Gr.a ?_|refine Gr.d ?_|refine Gr.t ?_ (by assumption))))).mono ?_
        rintro e1 w1 ⟨rfl, hg1⟩
        have g3 : Gr wr w1 := (Gr.refl wr).alloc.trans hg1
        have B1 := (Cs.new wr [.int .i64 q, .int .i64 dd, .int .i64 s, .int .i64 k0, .int .i64 r, .int .i64 n, .slice ax L.length cx, .string dt, .int .i64 y] 79 _ rfl).gr hg1
        have y0 := B1.at_ 0 _ rfl
        have y1 := B1.at_ 1 _ rfl
        have y2 := B1.at_ 2 _ rfl
        have y3 := B1.at_ 3 _ rfl
        have y4 := B1.at_ 4 _ rfl
        have y5 := B1.at_ 5 _ rfl
        have y6 := B1.at_ 6 _ rfl
        have y7 := B1.at_ 7 _ rfl
        have y8 := B1.at_ 8 _ rfl
        have yf0 := B1.fz 0 (by simp)
        have yf1 := B1.fz 1 (by simp)
        have yf2 := B1.fz 2 (by simp)
        have yf3 := B1.fz 3 (by simp)
        have yf4 := B1.fz 4 (by simp)
        have yf5 := B1.fz 5 (by simp)
        have yf6 := B1.fz 6 (by simp)
        have yf7 := B1.fz 7 (by simp)
        have yf8 := B1.fz 8 (by simp)
        have ylt := B1.lt
        have HOw := Lib.hid ((HB.out.gr g3).gr ((Gr.refl w1).alloc (o := .cells #[.int .i64 q, .int .i64 dd, .int .i64 s, .int .i64 k0, .int .i64 r, .int .i64 n, .slice ax L.length cx, .string dt, .int .i64 y] 79)))
        have HM4 := Lib.hid ((HNx.out.gr (HG.out.trans g3)).gr ((Gr.refl w1).alloc (o := .cells #[.int .i64 q, .int .i64 dd, .int .i64 s, .int .i64 k0, .int .i64 r, .int .i64 n, .slice ax L.length cx, .string dt, .int .i64 y] 79)))
        have HG4 : Hid (Gr w (w1.alloc (.cells #[.int .i64 q, .int .i64 dd, .int .i64 s, .int .i64 k0, .int .i64 r, .int .i64 n, .slice ax L.length cx, .string dt, .int .i64 y] 79))) := (HG.out.trans g3).alloc
        have hnw := i_new w1 ⟨q, dd, s, ⟨⟨k0, r, n, L, dt, y⟩, ax, cx⟩⟩ 79
        rw [show (iC ⟨q, dd, s, ⟨⟨k0, r, n, L, dt, y⟩, ax, cx⟩⟩).toArray = #[.int .i64 q, .int .i64 dd, .int .i64 s, .int .i64 k0, .int .i64 r, .int .i64 n, .slice ax L.length cx, .string dt, .int .i64 y] from rfl] at hnw
        have HNw := Lib.hid hnw
        clear hnw
        have HAp : Hid (L ≠ [] → ∀ p, ax = some p → (Value.slice a E.length c).ownBlock ≠ some p.block) := by
          intro hne p e kk
          have h1 := (HB.out.own.lt _ kk).1
          have h2 := hops_lt HNx.out.hp hne e
          omega
        have hlen4 : w.heap.size ≤ w1.heap.size := Nat.le_trans HG.out.size g3.size
        clear hg1 g3 HX HNx d0 d1 d2 d3 d4 d5 d6 d7 d8 B1
        have hm1 : E.length + 1 ≤ maxLen := by unfold maxLen; omega
        go_wp2_with (first
          | (at_builtin; refine wpList_append_own_at _ rfl _ _ 32 rfl w.heap.size 79 i0 (.agg #[.int .i64 0, .int .i64 0, .int .i64 0, .int .i64 0, .int .i64 0, .int .i64 0, .slice none 0 0, .string ⟨#[]⟩, .int .i64 0]) 9 96 Try.underlying32 hi0 hz0 hz1 hz2 rfl (by decide) _ _ _ rfl HOw.out.own ⟨w1.heap.size, 0, none⟩ 1 1 ([(⟨q, dd, s, ⟨⟨k0, r, n, L, dt, y⟩, ax, cx⟩⟩ : Mi)].flatMap iC) rfl rfl HNw.out (i_one _) hm1 (by omega) (by simp; omega) ?_)
          | fail)
        intro v' w5 hown' hgrow _ hat
        have hmo := Bxs.more (x := ⟨q, dd, s, ⟨⟨k0, r, n, L, dt, y⟩, ax, cx⟩⟩) HOw.out HM4.out HAp.out hown' hgrow (by simpa using hat)
        obtain ⟨a5, c5, rfl⟩ := own_slice3 hmo
        have HMo := Lib.hid hmo
        have HG5 := Lib.hid (HOw.out.grown HG4.out hgrow (Nat.le_refl _))
        clear hmo hown' hgrow hat yf0 yf1 yf2 yf3 yf4 yf5 yf6 yf7 yf8 y0 y1 y2 y3 y4 y5 y6 y7 y8 HOw HM4 HNw HAp
        go_wp2
        go_roundw
        case rel => exact ⟨k + 1, a5, c5, E ++ [(⟨q, dd, s, ⟨⟨k0, r, n, L, dt, y⟩, ax, cx⟩⟩ : Mi)], by go_num, rfl, by omega, by have := HEk.out; simp; omega, HT2.out.symm, HMo.out, HG5.out⟩
        case measure => simp [intOf]; omega
      | false =>
        have HT2 : Hid ((D.take (k + 1)).filter (fun x => decide (x.d ≤ z)) = E) := by
          show _ = _
          rw [HT.out, ← HEl.out, List.filter_cons, hp]; simp
        rw [hp] at HX
        clear hp HT HEl
        obtain ⟨q, dd, s, ⟨⟨k0, r, n, L, dt, y⟩, ax, cx⟩⟩ := x
        dsimp only [Mn.v, Mi.v] at *
        go_wp2_with fail
        refine (HX.out _ (HG.out.trans (by repeat(first|exact Gr.r _|refine Gr.a ?_|refine Gr.d ?_|refine Gr.t ?_ (by assumption))))).mono ?_
        rintro e1 w1 ⟨rfl, hg1⟩
        have g3 : Gr wr w1 := (Gr.refl wr).alloc.trans hg1
        have HB2 := Lib.hid (HB.out.gr g3)
        have HG2 := Lib.hid (HG.out.trans g3)
        clear hg1 g3 HX HNx d0 d1 d2 d3 d4 d5 d6 d7 d8
        go_wp2
        go_roundw
        case rel => exact ⟨k + 1, a, c, E, by go_num, rfl, by omega, by have := HEk.out; omega, HT2.out.symm, HB2.out, HG2.out⟩
        case measure => simp [intOf]; omega
    · have hge : ¬ ((k : Int) < (D.length : Int)) := by omega
      have HL : Hid (its E = its (D.filter fun x => decide (x.d ≤ z))) := by
        show _ = _
        rw [HEl.out, List.take_of_length_le (by omega)]
      go_wp2
      go_ret
      exact ⟨a, c, E, rfl, HB.out, HL.out, HG.out⟩

set_option maxHeartbeats 1000000 in
theorem closeAns_any (x : Mi) (z : Int) (g : Nat) (w : World) (hb : w.cell? ⟨g, 0, none⟩ = some (.int .i64 z)) :
    Calls Try.prog 51 #[x.v, .pointer (some ⟨g, 0, none⟩)] w fun e w' => e = .returned (.bool (decide (z < x.q))) ∧ Gr w w' := by
  obtain ⟨q, dd, s, ⟨⟨k, r, n, L, d, y⟩, ad, cap⟩⟩ := x
  have clt := World.block_lt_of_cell? w _ hb
  dsimp only [Mn.v, Mi.v] at *
  generalize L.length = ll at *
  go_enter Try.func51, Try.ntmps51
  go_wp2
  go_ret
  exact ⟨rfl, (by repeat(first|exact Gr.r _|refine Gr.a ?_|refine Gr.d ?_|refine Gr.t ?_ (by assumption)))⟩

set_option maxHeartbeats 8000000 in
set_option maxRecDepth 100000 in
theorem chosenAns_any (D : List Mi) (z : Int) (ad : Option Addr) (cap g : Nat) (w : World) (hD : ItsAt Z w ad D) (hn : D.length ≤ 1000) (hb : w.cell? ⟨g, 0, none⟩ = some (.int .i64 z)) :
    Calls Try.prog 50 #[.slice ad D.length cap, .func (.func 51) #[] #[.pointer (some ⟨g, 0, none⟩)]] w fun e w' => BxR Z (its (D.filter fun x => decide (z < x.q))) w e w' := by
  obtain ⟨i0, hi0, hz0, hz1, hz2⟩ := info_parts infoItem
  have HC : Hid (∀ x w', Gr w w' → Calls Try.prog 51 #[Mi.v x, .pointer (some ⟨g, 0, none⟩)] w' fun e w2 => e = .returned (.bool (decide (z < x.q))) ∧ Gr w' w2) := fun x w' gr => closeAns_any x z g w' (gr.keep hb)
  have HD := Lib.hid hD.row
  have HN := Lib.hid hD.nt
  clear hD hb
  go_enter Try.func50, Try.ntmps50
  go_wp2
  go_loopw [5, 10] (fun s5 s10 wr => ∃ (k : Nat) (a : Option Addr) (c : Nat) (E : List Mi), s10 = .int .i64 k ∧ s5 = .slice a E.length c ∧ k ≤ D.length ∧ E.length ≤ k ∧ E = (D.take k).filter (fun x => decide (z < x.q)) ∧ Bxs Z wr w.heap.size (.slice a E.length c) E ∧ Gr w wr) (fun _ s10 _ => D.length - (intOf s10).toNat)
  case atStart => exact ⟨0, none, 0, [], rfl, rfl, Nat.zero_le _, Nat.le_refl _, by simp, Bxs.nil _ _, Gr.refl _⟩
  case round =>
    obtain ⟨k, a, c, E, rfl, rfl, hk, hE, hEl, hbx, hg⟩ := hrel
    have HG := Lib.hid hg
    have HB := Lib.hid hbx
    have HEl := Lib.hid hEl
    have HEk : Hid (E.length ≤ k) := hE
    have hEb : E.length ≤ 1000 := by omega
    clear hbx hEl hE
    by_cases hlt : k < D.length
    · obtain ⟨b, off, rfl, hbl, d0, d1, d2, d3, d4, d5, d6, d7, d8⟩ := ItsRow.at HD.out k hlt
      have d0 := hg.keep d0
      have d1 := hg.keep d1
      have d2 := hg.keep d2
      have d3 := hg.keep d3
      have d4 := hg.keep d4
      have d5 := hg.keep d5
      have d6 := hg.keep d6
      have d7 := hg.keep d7
      have d8 := hg.keep d8
      have hbw : b < wr.heap.size := Nat.lt_of_lt_of_le hbl hg.size
      have hki : (k : Int) < (D.length : Int) := by omega
      have HX := Lib.hid (HC.out D[k])
      have HNx := Lib.hid (HN.out D[k] (List.getElem_mem hlt))
      have HT : Hid ((D.take (k + 1)).filter (fun x => decide (z < x.q)) = (D.take k).filter (fun x => decide (z < x.q)) ++ [D[k]].filter (fun x => decide (z < x.q))) := by
        show _ = _
        rw [List.take_succ_eq_append_getElem hlt, List.filter_append]
      clear hg
      generalize D[k] = x at *
      cases hp : decide (z < x.q) with
      | true =>
        have HT2 : Hid ((D.take (k + 1)).filter (fun x => decide (z < x.q)) = E ++ [x]) := by
          show _ = _
          rw [HT.out, ← HEl.out, List.filter_cons, hp]; rfl
        rw [hp] at HX
        clear hp HT HEl
        obtain ⟨q, dd, s, ⟨⟨k0, r, n, L, dt, y⟩, ax, cx⟩⟩ := x
        dsimp only [Mn.v, Mi.v] at *
        go_wp2_with fail
        refine (HX.out _ (HG.out.trans (by repeat(first|exact Gr.r _|refine Gr.a ?_|refine Gr.d ?_|refine Gr.t ?_ (by assumption))))).mono ?_
        rintro e1 w1 ⟨rfl, hg1⟩
        have g3 : Gr wr w1 := (Gr.refl wr).alloc.trans hg1
        have B1 := (Cs.new wr [.int .i64 q, .int .i64 dd, .int .i64 s, .int .i64 k0, .int .i64 r, .int .i64 n, .slice ax L.length cx, .string dt, .int .i64 y] 79 _ rfl).gr hg1
        have y0 := B1.at_ 0 _ rfl
        have y1 := B1.at_ 1 _ rfl
        have y2 := B1.at_ 2 _ rfl
        have y3 := B1.at_ 3 _ rfl
        have y4 := B1.at_ 4 _ rfl
        have y5 := B1.at_ 5 _ rfl
        have y6 := B1.at_ 6 _ rfl
        have y7 := B1.at_ 7 _ rfl
        have y8 := B1.at_ 8 _ rfl
        have yf0 := B1.fz 0 (by simp)
        have yf1 := B1.fz 1 (by simp)
        have yf2 := B1.fz 2 (by simp)
        have yf3 := B1.fz 3 (by simp)
        have yf4 := B1.fz 4 (by simp)
        have yf5 := B1.fz 5 (by simp)
        have yf6 := B1.fz 6 (by simp)
        have yf7 := B1.fz 7 (by simp)
        have yf8 := B1.fz 8 (by simp)
        have ylt := B1.lt
        have HOw := Lib.hid ((HB.out.gr g3).gr ((Gr.refl w1).alloc (o := .cells #[.int .i64 q, .int .i64 dd, .int .i64 s, .int .i64 k0, .int .i64 r, .int .i64 n, .slice ax L.length cx, .string dt, .int .i64 y] 79)))
        have HM4 := Lib.hid ((HNx.out.gr (HG.out.trans g3)).gr ((Gr.refl w1).alloc (o := .cells #[.int .i64 q, .int .i64 dd, .int .i64 s, .int .i64 k0, .int .i64 r, .int .i64 n, .slice ax L.length cx, .string dt, .int .i64 y] 79)))
        have HG4 : Hid (Gr w (w1.alloc (.cells #[.int .i64 q, .int .i64 dd, .int .i64 s, .int .i64 k0, .int .i64 r, .int .i64 n, .slice ax L.length cx, .string dt, .int .i64 y] 79))) := (HG.out.trans g3).alloc
        have hnw := i_new w1 ⟨q, dd, s, ⟨⟨k0, r, n, L, dt, y⟩, ax, cx⟩⟩ 79
        rw [show (iC ⟨q, dd, s, ⟨⟨k0, r, n, L, dt, y⟩, ax, cx⟩⟩).toArray = #[.int .i64 q, .int .i64 dd, .int .i64 s, .int .i64 k0, .int .i64 r, .int .i64 n, .slice ax L.length cx, .string dt, .int .i64 y] from rfl] at hnw
        have HNw := Lib.hid hnw
        clear hnw
        have HAp : Hid (L ≠ [] → ∀ p, ax = some p → (Value.slice a E.length c).ownBlock ≠ some p.block) := by
          intro hne p e kk
          have h1 := (HB.out.own.lt _ kk).1
          have h2 := hops_lt HNx.out.hp hne e
          omega
        have hlen4 : w.heap.size ≤ w1.heap.size := Nat.le_trans HG.out.size g3.size
        clear hg1 g3 HX HNx d0 d1 d2 d3 d4 d5 d6 d7 d8 B1
        have hm1 : E.length + 1 ≤ maxLen := by unfold maxLen; omega
        go_wp2_with (first
          | (at_builtin; refine wpList_append_own_at _ rfl _ _ 32 rfl w.heap.size 79 i0 (.agg #[.int .i64 0, .int .i64 0, .int .i64 0, .int .i64 0, .int .i64 0, .int .i64 0, .slice none 0 0, .string ⟨#[]⟩, .int .i64 0]) 9 96 Try.underlying32 hi0 hz0 hz1 hz2 rfl (by decide) _ _ _ rfl HOw.out.own ⟨w1.heap.size, 0, none⟩ 1 1 ([(⟨q, dd, s, ⟨⟨k0, r, n, L, dt, y⟩, ax, cx⟩⟩ : Mi)].flatMap iC) rfl rfl HNw.out (i_one _) hm1 (by omega) (by simp; omega) ?_)
          | fail)
        intro v' w5 hown' hgrow _ hat
        have hmo := Bxs.more (x := ⟨q, dd, s, ⟨⟨k0, r, n, L, dt, y⟩, ax, cx⟩⟩) HOw.out HM4.out HAp.out hown' hgrow (by simpa using hat)
        obtain ⟨a5, c5, rfl⟩ := own_slice3 hmo
        have HMo := Lib.hid hmo
        have HG5 := Lib.hid (HOw.out.grown HG4.out hgrow (Nat.le_refl _))
        clear hmo hown' hgrow hat yf0 yf1 yf2 yf3 yf4 yf5 yf6 yf7 yf8 y0 y1 y2 y3 y4 y5 y6 y7 y8 HOw HM4 HNw HAp
        go_wp2
        go_roundw
        case rel => exact ⟨k + 1, a5, c5, E ++ [(⟨q, dd, s, ⟨⟨k0, r, n, L, dt, y⟩, ax, cx⟩⟩ : Mi)], by go_num, rfl, by omega, by have := HEk.out; simp; omega, HT2.out.symm, HMo.out, HG5.out⟩
        case measure => simp [intOf]; omega
      | false =>
        have HT2 : Hid ((D.take (k + 1)).filter (fun x => decide (z < x.q)) = E) := by
          show _ = _
          rw [HT.out, ← HEl.out, List.filter_cons, hp]; simp
        rw [hp] at HX
        clear hp HT HEl
        obtain ⟨q, dd, s, ⟨⟨k0, r, n, L, dt, y⟩, ax, cx⟩⟩ := x
        dsimp only [Mn.v, Mi.v] at *
        go_wp2_with fail
        refine (HX.out _ (HG.out.trans (by repeat(first|exact Gr.r _|refine Gr.a ?_|refine Gr.d ?_|refine Gr.t ?_ (by assumption))))).mono ?_
        rintro e1 w1 ⟨rfl, hg1⟩
        have g3 : Gr wr w1 := (Gr.refl wr).alloc.trans hg1
        have HB2 := Lib.hid (HB.out.gr g3)
        have HG2 := Lib.hid (HG.out.trans g3)
        clear hg1 g3 HX HNx d0 d1 d2 d3 d4 d5 d6 d7 d8
        go_wp2
        go_roundw
        case rel => exact ⟨k + 1, a, c, E, by go_num, rfl, by omega, by have := HEk.out; omega, HT2.out.symm, HB2.out, HG2.out⟩
        case measure => simp [intOf]; omega
    · have hge : ¬ ((k : Int) < (D.length : Int)) := by omega
      have HL : Hid (its E = its (D.filter fun x => decide (z < x.q))) := by
        show _ = _
        rw [HEl.out, List.take_of_length_le (by omega)]
      go_wp2
      go_ret
      exact ⟨a, c, E, rfl, HB.out, HL.out, HG.out⟩

end Go.Proofs.Ythfbpilfdfploaa
namespace Go.Proofs.Ythfbpilfdfploaa
open Go.RowKit

theorem parentOf (r n : Int) (L : List (Int × Int)) (ad : Option Addr) (cap : Nat) (w : World) (hL : HopsAt w ad L) (hc : L.length ≤ cap) (hm : Idn.mayB r n L = true) (h0 : 0 < L.length) :
    Calls Try.prog 59 #[.agg #[.int .i64 r, .int .i64 n, .slice ad L.length cap]] w fun e w' => ∃ ad2 cap2 s, e = .returned (.tuple #[.agg #[.int .i64 r, .int .i64 n, .slice ad2 L.dropLast.length cap2], .int .i64 s, .bool true]) ∧ HopsAt w' ad2 L.dropLast ∧ Gr w w' := by
  have hne : L ≠ [] := List.length_pos_iff.1 h0
  obtain ⟨b, off, rfl, _, _⟩ := hL 0 h0
  obtain ⟨⟨s, o⟩, hlast⟩ : ∃ x, L.getLast hne = x := ⟨_, rfl⟩
  have e : L = L.dropLast ++ [(s, o)] := by rw [← hlast]; exact (List.dropLast_concat_getLast hne).symm
  have hl : L.length = L.dropLast.length + 1 := by rw [List.length_dropLast]; omega
  generalize L.dropLast = M at *
  subst e
  have h4 := may_len hm
  rw [hl]
  refine (parent_yes r n s o M b off cap w hL (by omega) hm (by omega)).mono ?_
  rintro e w' ⟨ad2, cap2, rfl, _, h1, h2⟩
  exact ⟨ad2, cap2, s, rfl, h1, h2⟩
theorem may_drop {r n : Int} {L : List (Int × Int)} (hm : Idn.mayB r n L = true) (h0 : 0 < L.length) : Idn.mayB r n L.dropLast = true := by
  have hne : L ≠ [] := List.length_pos_iff.1 h0
  obtain ⟨⟨s, o⟩, hlast⟩ : ∃ x, L.getLast hne = x := ⟨_, rfl⟩
  have e : L = L.dropLast ++ [(s, o)] := by rw [← hlast]; exact (List.dropLast_concat_getLast hne).symm
  rw [e] at hm
  exact (Idn.may_snoc hm).1
theorem org_up {r n : Int} {L : List (Int × Int)} (hm : Idn.mayB r n L = true) : orgE r n L = (Idn.path r L).getLastD (-1) := by
  unfold orgE pathE; rw [if_pos hm]

set_option maxHeartbeats 4000000 in
set_option maxRecDepth 100000 in
theorem nEnds_any (k r n : Int) (L : List (Int × Int)) (d : ByteArray) (y : Int) (ad : Option Addr) (cap : Nat) (w : World) (hL : HopsAt w ad L) (hn : L.length ≤ 9223372036854775807) (hd : d.size ≤ 9223372036854775807) (hc : L.length ≤ cap) :
    Calls Try.prog 39 #[.agg #[.int .i64 k, .int .i64 r, .int .i64 n, .slice ad L.length cap, .string d, .int .i64 y]] w fun e w' => e = .returned (.tuple #[.int .i64 (Nt.ends1 (⟨k, r, n, L, d, y⟩ : Nt)), .int .i64 (Nt.ends2 (⟨k, r, n, L, d, y⟩ : Nt))]) ∧ Gr w w' := by
  have HC : Hid (∀ w', Gr w w' → Calls Try.prog 58 #[.agg #[.int .i64 k, .int .i64 r, .int .i64 n, .slice ad L.length cap, .string d, .int .i64 y]] w' fun e w2 => e = .returned (.int .i64 (Nt.ckE (⟨k, r, n, L, d, y⟩ : Nt))) ∧ Gr w' w2) := fun w' g => nCheck_any k r n L d y ad cap w' (hL.gr g) hn hd
  have HE1 : Hid (Nt.ends1 (⟨k, r, n, L, d, y⟩ : Nt) = if Nt.ntB (⟨k, r, n, L, d, y⟩ : Nt) = true then (if k ≤ 4 then Nt.upO (⟨k, r, n, L, d, y⟩ : Nt) else Nt.dnO (⟨k, r, n, L, d, y⟩ : Nt)) else -1) := rfl
  have HE2 : Hid (Nt.ends2 (⟨k, r, n, L, d, y⟩ : Nt) = if Nt.ntB (⟨k, r, n, L, d, y⟩ : Nt) = true then (if k ≤ 4 then Nt.dnO (⟨k, r, n, L, d, y⟩ : Nt) else Nt.upO (⟨k, r, n, L, d, y⟩ : Nt)) else -1) := rfl
  generalize Nt.ends1 (⟨k, r, n, L, d, y⟩ : Nt) = E1 at *
  generalize Nt.ends2 (⟨k, r, n, L, d, y⟩ : Nt) = E2 at *
  unfold Nt.ckE at HC
  by_cases hm : Nt.ntB (⟨k, r, n, L, d, y⟩ : Nt) = true
  · rw [if_pos hm] at HC HE1 HE2
    obtain ⟨hk, hi, h0, _, _⟩ := Nt.may_note hm
    simp only at hk hi h0
    have hdrop := may_drop hi h0
    have HP : Hid (∀ w', Gr w w' → Calls Try.prog 59 #[.agg #[.int .i64 r, .int .i64 n, .slice ad L.length cap]] w' fun e w2 => ∃ ad2 cap2 s, e = .returned (.tuple #[.agg #[.int .i64 r, .int .i64 n, .slice ad2 L.dropLast.length cap2], .int .i64 s, .bool true]) ∧ HopsAt w2 ad2 L.dropLast ∧ Gr w' w2) := fun w' g => parentOf r n L ad cap w' (hL.gr g) hc hi h0
    have HO : Hid (∀ w', Gr w w' → Calls Try.prog 60 #[.agg #[.int .i64 r, .int .i64 n, .slice ad L.length cap]] w' fun e w2 => e = .returned (.int .i64 (Nt.dnO (⟨k, r, n, L, d, y⟩ : Nt))) ∧ Gr w' w2) := fun w' g => by
      have := org_any r n L ad cap w' (hL.gr g) hn
      rw [org_up hi] at this
      exact this
    have HU : Hid (∀ (w' : World) (ad2 : Option Addr) (cap2 : Nat), HopsAt w' ad2 L.dropLast → Calls Try.prog 60 #[.agg #[.int .i64 r, .int .i64 n, .slice ad2 L.dropLast.length cap2]] w' fun e w2 => e = .returned (.int .i64 (Nt.upO (⟨k, r, n, L, d, y⟩ : Nt))) ∧ Gr w' w2) := fun w' ad2 cap2 h => by
      have := org_any r n L.dropLast ad2 cap2 w' h (by rw [List.length_dropLast]; omega)
      rw [org_up hdrop] at this
      exact this
    generalize Nt.upO (⟨k, r, n, L, d, y⟩ : Nt) = U at *
    generalize Nt.dnO (⟨k, r, n, L, d, y⟩ : Nt) = V at *
    generalize L.dropLast = M at *
    clear hL hm hi h0 hdrop hn hd hc
    go_enter Try.func39, Try.ntmps39
    go_wp2_with fail
    refine (HC.out _ (by repeat(first|exact Gr.r _|refine Gr.a ?_|refine Gr.d ?_|refine Gr.t ?_ (by assumption)))).mono ?_
    rintro e1 w1 ⟨rfl, hg1⟩
    have B1 := (Cs.new w [.int .i64 k, .int .i64 r, .int .i64 n, .slice ad L.length cap, .string d, .int .i64 y] 26 _ rfl).gr hg1
    have c0 := B1.at_ 0 _ rfl
    have c1 := B1.at_ 1 _ rfl
    have c2 := B1.at_ 2 _ rfl
    have c3 := B1.at_ 3 _ rfl
    have clt := B1.lt
    go_wp2_with fail
    refine (HP.out _ ?_).mono ?_
    · exact (by repeat(first|exact Gr.r _|refine Gr.a ?_|refine Gr.d ?_|refine Gr.t ?_ (by assumption)))
    rintro e2 w2 ⟨ad2, cap2, s, rfl, hia, hg2⟩
    have B2 := B1.gr hg2
    have HI : Hid (HopsAt w2 ad2 M) := hia
    have hgw : Gr w w2 := (by repeat(first|exact Gr.r _|refine Gr.a ?_|refine Gr.d ?_|refine Gr.t ?_ (by assumption)))
    have p0 := B2.at_ 0 _ rfl
    have p1 := B2.at_ 1 _ rfl
    have p2 := B2.at_ 2 _ rfl
    have p3 := B2.at_ 3 _ rfl
    have plt := B2.lt
    clear c0 c1 c2 c3 clt hg1 hg2 hia B1
    have D2 := Cs.new w2 [.int .i64 r, .int .i64 n, .slice ad2 M.length cap2] 24 _ rfl
    have q0 := D2.at_ 0 _ rfl
    have q1 := D2.at_ 1 _ rfl
    have q2 := D2.at_ 2 _ rfl
    have qlt := D2.lt
    have r1 := B2.alloc (o := .cells #[.int .i64 r, .int .i64 n, .slice ad2 M.length cap2] 24) |>.at_ 1 _ rfl
    have r2 := B2.alloc (o := .cells #[.int .i64 r, .int .i64 n, .slice ad2 M.length cap2] 24) |>.at_ 2 _ rfl
    have r3 := B2.alloc (o := .cells #[.int .i64 r, .int .i64 n, .slice ad2 M.length cap2] 24) |>.at_ 3 _ rfl
    have r0 := B2.alloc (o := .cells #[.int .i64 r, .int .i64 n, .slice ad2 M.length cap2] 24) |>.at_ 0 _ rfl
    go_wp2
    have hgx : Gr w (w2.alloc (.cells #[.int .i64 r, .int .i64 n, .slice ad2 M.length cap2] 24)) := hgw.alloc
    have HI2 : Hid (HopsAt (w2.alloc (.cells #[.int .i64 r, .int .i64 n, .slice ad2 M.length cap2] 24)) ad2 M) := HI.out.alloc
    generalize w2.alloc (.cells #[.int .i64 r, .int .i64 n, .slice ad2 M.length cap2] 24) = w3 at *
    clear p0 p1 p2 p3 HI D2 B2
    go_region_held3 (fun w' => Gr w3 w' ∧ w'.cell? ⟨w.heap.size, 0, none⟩ = some (.int .i64 k) ∧ w'.cell? ⟨w.heap.size, 1, none⟩ = some (.int .i64 r) ∧ w'.cell? ⟨w.heap.size, 2, none⟩ = some (.int .i64 n) ∧ w'.cell? ⟨w.heap.size, 3, none⟩ = some (.slice ad L.length cap) ∧ w'.cell? ⟨w2.heap.size, 0, none⟩ = some (.int .i64 r) ∧ w'.cell? ⟨w2.heap.size, 1, none⟩ = some (.int .i64 n) ∧ w'.cell? ⟨w2.heap.size, 2, none⟩ = some (.slice ad2 M.length cap2))
      ((go_split_ands; exact ⟨(by repeat(first|exact Gr.r _|refine Gr.a ?_|refine Gr.d ?_|refine Gr.t ?_ (by assumption))), Gr.keep (W := w3) (by repeat(first|exact Gr.r _|refine Gr.a ?_|refine Gr.d ?_|refine Gr.t ?_ (by assumption))) r0, Gr.keep (W := w3) (by repeat(first|exact Gr.r _|refine Gr.a ?_|refine Gr.d ?_|refine Gr.t ?_ (by assumption))) r1, Gr.keep (W := w3) (by repeat(first|exact Gr.r _|refine Gr.a ?_|refine Gr.d ?_|refine Gr.t ?_ (by assumption))) r2, Gr.keep (W := w3) (by repeat(first|exact Gr.r _|refine Gr.a ?_|refine Gr.d ?_|refine Gr.t ?_ (by assumption))) r3, Gr.keep (W := w3) (by repeat(first|exact Gr.r _|refine Gr.a ?_|refine Gr.d ?_|refine Gr.t ?_ (by assumption))) q0, Gr.keep (W := w3) (by repeat(first|exact Gr.r _|refine Gr.a ?_|refine Gr.d ?_|refine Gr.t ?_ (by assumption))) q1, Gr.keep (W := w3) (by repeat(first|exact Gr.r _|refine Gr.a ?_|refine Gr.d ?_|refine Gr.t ?_ (by assumption))) q2⟩))
      ((first | (go_at_call_of 60 (Value.agg #[.int .i64 r, .int .i64 n, .slice ad2 M.length cap2]); refine (HU.out _ ad2 cap2 ?_).mono ?_; (go_split_ands; exact HI2.out.gr (by repeat(first|exact Gr.r _|refine Gr.a ?_|refine Gr.d ?_|refine Gr.t ?_ (by assumption)))); rintro e w4 ⟨rfl, hg4⟩; go_split_ands; have s0 : w4.cell? ⟨w.heap.size, 0, none⟩ = some (.int .i64 k) := (Gr.keep (W := w3) (by repeat(first|exact Gr.r _|refine Gr.a ?_|refine Gr.d ?_|refine Gr.t ?_ (by assumption))) r0)) | (go_at_call 60; refine (HO.out _ ?_).mono ?_; (go_split_ands; exact (by repeat(first|exact Gr.r _|refine Gr.a ?_|refine Gr.d ?_|refine Gr.t ?_ (by assumption)))); rintro e w5 ⟨rfl, hg5⟩; go_split_ands; have t0 : w5.cell? ⟨w.heap.size, 0, none⟩ = some (.int .i64 k) := (Gr.keep (W := w3) (by repeat(first|exact Gr.r _|refine Gr.a ?_|refine Gr.d ?_|refine Gr.t ?_ (by assumption))) r0))))
    all_goals
      by_cases hk4 : k ≤ 4
      · rw [if_pos hk4] at HE1 HE2
        go_wp2
        go_ret2
        exact ⟨by rw [HE1.out, HE2.out]; rfl, (by repeat(first|exact Gr.r _|refine Gr.a ?_|refine Gr.d ?_|refine Gr.t ?_ (by assumption)))⟩
      · rw [if_neg hk4] at HE1 HE2
        go_wp2
        go_ret2
        exact ⟨by rw [HE1.out, HE2.out]; rfl, (by repeat(first|exact Gr.r _|refine Gr.a ?_|refine Gr.d ?_|refine Gr.t ?_ (by assumption)))⟩
  · rw [if_neg hm] at HC HE1 HE2
    clear hL hm
    go_enter Try.func39, Try.ntmps39
    go_wp2_with fail
    refine (HC.out _ (by repeat(first|exact Gr.r _|refine Gr.a ?_|refine Gr.d ?_|refine Gr.t ?_ (by assumption)))).mono ?_
    rintro e1 w1 ⟨rfl, hg1⟩
    go_wp2
    go_ret2
    exact ⟨by rw [HE1.out, HE2.out]; rfl, (by repeat(first|exact Gr.r _|refine Gr.a ?_|refine Gr.d ?_|refine Gr.t ?_ (by assumption)))⟩
end Go.Proofs.Ythfbpilfdfploaa
namespace Go.Proofs.Ythfbpilfdfploaa
open Go.RowKit

theorem let_parts {b : UInt8} (h : Act.letB b = true) : (97 : Int) ≤ (b.toNat : Int) ∧ (b.toNat : Int) ≤ 122 := by
  unfold Act.letB at h; simpa only [Bool.and_eq_true, decide_eq_true_eq] using h
theorem dig_parts {b : UInt8} (h : Act.digB b = true) : (48 : Int) ≤ (b.toNat : Int) ∧ (b.toNat : Int) ≤ 57 := by
  unfold Act.digB at h; simpa only [Bool.and_eq_true, decide_eq_true_eq] using h

end Go.Proofs.Ythfbpilfdfploaa
namespace Go.Proofs.Ythfbpilfdfploaa
open Go.RowKit

theorem path_last (r : Int) (L : List (Int × Int)) (h0 : 0 < L.length) : (Idn.path r L)[L.length]? = some ((Idn.path r L).getLastD (-1)) ∧ (Idn.path r L)[L.length - 1]? = some ((Idn.path r L.dropLast).getLastD (-1)) := by
  have hne : L ≠ [] := List.length_pos_iff.1 h0
  obtain ⟨⟨s, o⟩, hlast⟩ : ∃ x, L.getLast hne = x := ⟨_, rfl⟩
  have e : L = L.dropLast ++ [(s, o)] := by rw [← hlast]; exact (List.dropLast_concat_getLast hne).symm
  generalize L.dropLast = M at *
  subst e
  rw [Idn.path_snoc]
  have hp : (Idn.path r M).length = M.length + 1 := path_len r M
  constructor
  · rw [List.length_append, List.length_singleton, List.getElem?_append_right (by omega), hp]
    simp
  · rw [List.length_append, List.length_singleton, Nat.add_sub_cancel, List.getElem?_append_left (by omega)]
    rw [List.getLastD_eq_getLast?, List.getLast?_eq_getElem?, hp, Nat.add_sub_cancel, List.getElem?_eq_getElem (by omega)]
    rfl

end Go.Proofs.Ythfbpilfdfploaa
namespace Go.Proofs.Ythfbpilfdfploaa
open Go.RowKit

variable {Z : Nat → Prop}
theorem rone_parts (q d s : Int) (x : Nt) (c : Bool) (hc : c = okN (pk x)) : Ox.one okN (⟨q, d, s, pk x⟩ : Ox.It Nx) = (!decide (q < 1) && !decide (1000000000 < q) && c && (decide (0 ≤ d ∧ d ≤ 1000000016) && decide (0 ≤ s ∧ s ≤ 1000000))) := by
  subst hc
  unfold Ox.one
  rw [Bool.eq_iff_iff]
  simp only [Bool.and_eq_true, decide_eq_true_eq, Bool.not_eq_true', decide_eq_false_iff_not]
  constructor
  · rintro ⟨⟨⟨h1, h2⟩, h3⟩, h4⟩; exact ⟨⟨⟨by omega, by omega⟩, h2⟩, h3, h4⟩
  · rintro ⟨⟨⟨h1, h3⟩, h2⟩, h4, h5⟩; exact ⟨⟨⟨by omega, h2⟩, h4⟩, h5⟩
end Go.Proofs.Ythfbpilfdfploaa
namespace Go.Proofs.Ythfbpilfdfploaa

theorem append_gone {P : Program} {w : World} {ops : Array Oper} {rest : List Oper} {o : Oper} {a : Act} {Q : Exit → Act → World → Prop} (hgd : o.guard = none) (s x : Operand) (t : TypeId)
    (ho : o.op = .call { callee := .builtin .append, args := #[s, x], argTypes := #[t, t] })
    (base : Nat) (e : TypeId) (i : TypeInfo) (size : Nat) (ht : P.underlying t = some (.slice e)) (hi : P.info? e = some i)
    (v : Value) (n : Nat) (xs : List Value) (hs : a.eval s = v) (hown : w.ownsRow base e size v n xs) (c : Nat) (hx : a.eval x = .slice none 0 c)
    (h : wpList P ops Q rest (a.put o.dst v) w) : wpList P ops Q (o :: rest) a w := by
  refine wpList_plain hgd fun K hK => ?_
  have hrun : (Builtin.append_ #[t, t] o.type #[v, .slice none 0 c]).run P w = .ok v w := by
    rcases hown.2 with ⟨rfl, rfl⟩ | ⟨g, cap, cur, rfl, _, _, hnc, _⟩
    · simp [Builtin.append_, run_underlying ht, sizeOf, typeInfo, hi, Builtin.lenOf, Builtin.firstCells]
    · simp [Builtin.append_, run_underlying ht, sizeOf, typeInfo, hi, Builtin.lenOf, Builtin.firstCells, hnc, storeCells]
  unfold Oper.wp
  simp [execOp, ho, resolve, invoke, builtin, hs, hx, hrun, Result.andThen]
  exact hK _ _ h
end Go.Proofs.Ythfbpilfdfploaa
namespace Go.Proofs.Ythfbpilfdfploaa
open Go.RowKit
open Wn (Wd)

theorem infoN : (Try.prog.info? 3).map (fun i => (i.zero, i.size, i.bytes)) = some (some (.int .i64 0), 1, 8) := by kernel_rfl
theorem row_keep {w w' : World} {base : Nat} {e : TypeId} {size n : Nat} {v : Value} {xs : List Value} (h : w.ownsRow base e size v n xs) (hb : ∀ g, v.ownBlock = some g → w'.heap[g]? = w.heap[g]?) : w'.ownsRow base e size v n xs := by
  obtain ⟨h1, ⟨rfl, h2⟩ | ⟨g, cap, cur, rfl, h3, h4, h5⟩⟩ := h
  · exact ⟨h1, Or.inl ⟨rfl, h2⟩⟩
  · exact ⟨h1, Or.inr ⟨g, cap, cur, rfl, h3, (hb g rfl).trans h4, h5⟩⟩
theorem row_gr {w w' : World} {base : Nat} {e : TypeId} {size n : Nat} {v : Value} {xs : List Value} (h : w.ownsRow base e size v n xs) (g : Gr w w') : w'.ownsRow base e size v n xs :=
  row_keep h (fun j hj => g.below.block j (h.lt j hj).2)
theorem IntsAt.news {w : World} {a : Addr} {l : List Int} (h : IntsAt w (some a) l) : ∀ j u, (intV l)[j]? = some u → w.cell? (a.add j) = some u := by
  intro j u hu
  have hj : j < l.length := by
    rcases Nat.lt_or_ge j l.length with h | h
    · exact h
    · rw [List.getElem?_eq_none (by simpa [intV] using h)] at hu; cases hu
  obtain ⟨b, off, e, _, hc⟩ := h j hj
  cases e
  rw [Addr.add_lit, hc]
  have : (intV l)[j]? = some (.int .i64 l[j]) := by simp [intV, hj]
  rw [← this, hu]
theorem intV_len (l : List Int) : (intV l).length = l.length := by simp [intV]
theorem intV_one (l : List Int) : ∀ u ∈ intV l, u.oneCell' = true := by
  intro u hu
  simp only [intV, List.mem_map] at hu
  obtain ⟨n, _, rfl⟩ := hu
  rfl
theorem IntsAt.none {w : World} {l : List Int} (h : IntsAt w none l) : l = [] := by
  cases l with
  | nil => rfl
  | cons x r => obtain ⟨b, off, e, _⟩ := h 0 (by simp); cases e
/- a row that the call owns, as a row in memory -/
theorem own_intsN {base : Nat} {v : Value} {l : List Int} {w : World} (h : w.ownsRow base 3 1 v l.length (intV l)) : ∃ ad cap, v = .slice ad l.length cap ∧ l.length ≤ cap ∧ IntsAt w ad l ∧ (ad = none → cap = 0) ∧ (∀ a, ad = some a → base ≤ a.block ∧ a.block < w.heap.size) := by
  have hcell := fun g (hg : v.ownBlock = some g) => h.cells hg
  have hlt := h.lt
  obtain ⟨_, ⟨rfl, h0⟩ | ⟨g, cap, cur, rfl, hx⟩⟩ := h
  · have : l = [] := List.length_eq_zero_iff.1 h0
    subst this
    exact ⟨none, 0, rfl, by simp, fun j hj => absurd hj (by simp), fun _ => rfl, fun a e => by cases e⟩
  · refine ⟨some ⟨g, 0, none⟩, cap, rfl, hx.2.2.1, ?_, (fun e => by cases e), fun a e => by cases e; exact hlt g rfl⟩
    intro j hj
    refine ⟨g, 0, rfl, (hlt g rfl).2, ?_⟩
    have := hcell g rfl j (.int .i64 l[j]) (by simp [intV, hj])
    rw [Addr.add_lit] at this
    simpa using this
set_option maxHeartbeats 4000000 in
set_option maxRecDepth 100000 in
theorem copy_any (l : List Int) (ad : Option Addr) (cap : Nat) (w : World) (hL : IntsAt w ad l) (hn : l.length ≤ 1000) (hc : ad = none → cap = 0) :
    Calls Try.prog 53 #[.slice ad l.length cap] w fun e w' => ∃ v, e = .returned v ∧ w'.ownsRow w.heap.size 3 1 v l.length (intV l) ∧ Gr w w' := by
  obtain ⟨i0, hi0, hz0, hz1, hz2⟩ := info_parts infoN
  cases ad with
  | none =>
    obtain rfl := hL.none
    obtain rfl := hc rfl
    have hown := World.ownsRow_nil w w.heap.size 3 1
    rw [List.length_nil]
    go_enter Try.func53, Try.ntmps53
    go_wp2_with (first
      | (at_builtin; refine wpList_append_own_none rfl _ _ 35 rfl w.heap.size 3 i0 1 Try.underlying35 hi0 _ _ _ rfl hown rfl ?_)
      | fail)
    go_ret
    exact ⟨_, rfl, hown, (by repeat(first|exact Gr.r _|refine Gr.a ?_|refine Gr.d ?_|refine Gr.t ?_ (by assumption)))⟩
  | some a =>
    have HN := Lib.hid hL.news
    have hln := intV_len l
    have hm1 : 0 + l.length ≤ maxLen := by unfold maxLen; omega
    clear hL hc
    go_enter Try.func53, Try.ntmps53
    go_wp2_with (first
      | (at_builtin; refine wpList_append_own _ rfl _ _ 35 rfl w.heap.size 3 i0 (.int .i64 0) 1 8 Try.underlying35 hi0 hz0 hz1 hz2 rfl (by decide) _ _ _ rfl (World.ownsRow_nil _ _ _ _) a l.length cap (intV l) rfl (by omega) HN.out (intV_one l) hm1 (by omega) (by simp) ?_)
      | fail)
    intro v' w1 hown' hgrow _
    have HI : Hid (w1.ownsRow w.heap.size 3 1 v' l.length (intV l)) := by
      show World.ownsRow _ _ _ _ _ _ _
      simpa using hown'
    have HG : Hid (Gr w w1) := (Gr.refl w).grown hgrow (fun k hk => by simp [Value.ownBlock] at hk)
    clear hown' hgrow
    go_wp2
    go_ret
    exact ⟨v', rfl, HI.out, HG.out⟩
theorem search_any (l : List Int) (ad : Option Addr) (cap : Nat) (x : Int) (w : World) (hL : IntsAt w ad l) (hn : l.length ≤ 1000) (hu : Wn.Up l) :
    Calls Try.prog 54 #[.slice ad l.length cap, .int .i64 x] w fun e w' => e = .returned (.tuple #[.int .i64 (Wn.pos x l : Nat), .bool (decide (x ∈ l))]) ∧ Gr w w' := by
  cases l with
  | nil =>
    refine (Try.slices_BinarySearch_int_empty ad cap x w).mono ?_
    rintro e w' ⟨rfl, rfl⟩
    exact ⟨by simp [Wn.pos], Gr.refl _⟩
  | cons y r =>
    obtain ⟨b, off, rfl, _, _⟩ := hL 0 (by simp)
    refine (Try.slices_BinarySearch_int b off (y :: r).length cap (y :: r) x w (Nat.le_refl _) (by omega) (fun j hj => ?_) ?_).mono ?_
    · obtain ⟨b', off', e, _, hc⟩ := hL j hj
      cases e
      rw [hc, List.getD_eq_getElem?_getD, List.getElem?_eq_getElem hj]; rfl
    · rw [List.take_length]
      exact hu.imp (fun h => by omega)
    · rintro e w' ⟨rfl, q, rfl⟩
      rw [List.take_length]
      refine ⟨?_, (Gr.refl w).dn q⟩
      rw [List.contains_eq_mem]
      rfl
/- the row with a number laid in -/
def put (l : List Int) (i : Nat) (x : Int) : List Int := l.take i ++ x :: l.drop i
theorem put_len (l : List Int) (i : Nat) (x : Int) (hi : i ≤ l.length) : (put l i x).length = l.length + 1 := by
  unfold put; rw [List.length_append, List.length_cons, List.length_take, List.length_drop]; omega
theorem put_at (l : List Int) (i : Nat) (x : Int) (hi : i ≤ l.length) (j : Nat) (hj : j < (put l i x).length) :
    (j < i → ∃ h : j < l.length, (put l i x)[j] = l[j]) ∧ (j = i → (put l i x)[j] = x) ∧ (i < j → ∃ h : j - 1 < l.length, (put l i x)[j] = l[j - 1]) := by
  have hl : (l.take i).length = i := by rw [List.length_take]; omega
  have hjl := hj
  rw [put_len l i x hi] at hjl
  unfold put at *
  refine ⟨fun c => ⟨by omega, ?_⟩, fun c => ?_, fun c => ⟨by omega, ?_⟩⟩
  · rw [List.getElem_append_left (by omega), List.getElem_take]
  · subst c
    rw [List.getElem_append_right (by omega)]
    simp [hl]
  · rw [List.getElem_append_right (by omega)]
    simp only [hl]
    obtain ⟨k, hk⟩ : ∃ k, j - i = k + 1 := ⟨j - i - 1, by omega⟩
    simp only [hk, List.getElem_cons_succ, List.getElem_drop]
    congr 1
    omega
theorem Below.cellsW {B : Nat} (b : Nat) (hb : B ≤ b) : ∀ (vs : List Value) (o : Nat) {a w : World}, Below B a w → Below B a (w.setCells b o vs)
  | [], _, _, _, h => h
  | v :: r, o, _, _, h => Below.cellsW b hb r (o + 1) (h.setCell (p := ⟨b, o, none⟩) hb v)
theorem size_setCells (b : Nat) : ∀ (vs : List Value) (o : Nat) (w : World), (w.setCells b o vs).heap.size = w.heap.size
  | [], _, _ => rfl
  | v :: r, o, w => by rw [World.setCells, size_setCells b r]; simp
theorem cell_blk {w : World} {g : Nat} {cur : Array Value} {t : TypeId} {z : Nat × Nat} (h : w.heap[g]? = some (.cells cur t z)) (j : Nat) : w.cell? ⟨g, j, none⟩ = cur[j]? := by simp [World.cell?, h]
/- what slices.Insert leaves -/
def InR (base : Nat) (w w' : World) (e : Ending) (L : List Int) : Prop := ∃ g cap, e = .returned (.slice (some ⟨g, 0, none⟩) L.length cap) ∧ IntsAt w' (some ⟨g, 0, none⟩) L ∧ L.length ≤ cap ∧ base ≤ g ∧ g < w'.heap.size ∧ Below base w w'
theorem size_new (w : World) (o : Obj) : (w.drew.alloc o).heap.size = w.heap.size + 1 := by simp
theorem ints_new (w : World) (C : Array Value) (t : TypeId) (L : List Int) (h : ∀ j (hj : j < L.length), C[j]? = some (.int .i64 L[j])) : IntsAt (w.drew.alloc (.cells C t)) (some ⟨w.heap.size, 0, none⟩) L := by
  intro j hj
  refine ⟨_, _, rfl, by rw [size_new]; omega, ?_⟩
  rw [Nat.zero_add, World.cell?_alloc_at (w := w.drew) _ _ w.heap.size _ rfl]
  exact h j hj
theorem intV_at (l : List Int) (j : Nat) (hj : j < l.length) : (intV l)[j]? = some (.int .i64 l[j]) := by simp [intV, hj]
/- a row's cells, and that they are there -/
theorem own_cells {w : World} {g : Nat} {cur : Array Value} {t : TypeId} {z : Nat × Nat} {l : List Int} (h4 : w.heap[g]? = some (.cells cur t z)) (h8 : cur.toList.take (l.length * 1) = intV l) (j : Nat) (hj : j < l.length) : w.cell? ⟨g, j, none⟩ = some (.int .i64 l[j]) := by
  have h := congrArg (·[j]?) h8
  simp only [Nat.mul_one, List.getElem?_take_of_lt hj, intV_at l j hj] at h
  rw [cell_blk h4]
  simpa using h
theorem own_some {w : World} {g : Nat} {cur : Array Value} {t : TypeId} {z : Nat × Nat} (h4 : w.heap[g]? = some (.cells cur t z)) (j : Nat) (hj : j < cur.size) : (w.cell? ⟨g, j, none⟩).isSome = true := by
  rw [cell_blk h4, Array.getElem?_eq_getElem hj]; rfl
theorem own_free {w : World} {g : Nat} {cur : Array Value} {t : TypeId} (h4 : w.heap[g]? = some (.cells cur t (0, 0))) (j : Nat) : w.frozen? ⟨g, j, none⟩ = false := by simp [World.frozen?, h4]
/- one value, written at the end -/
theorem put_end (l : List Int) (x : Int) : put l l.length x = l ++ [x] := by simp [put]
theorem ins_room (base : Nat) (l : List Int) (g cap : Nat) (cur : Array Value) (t0 : TypeId) (x : Int) (vb : Nat) (w : World) (h3 : base ≤ g) (h4 : w.heap[g]? = some (.cells cur t0 (0, 0))) (hg : g < w.heap.size) (h6 : cap ≤ 9223372036854775807) (h7 : cur.size = cap) (h8 : cur.toList.take (l.length * 1) = intV l) (hr : l.length + 1 ≤ cap)
    (hvs : ∀ j u, [Value.int .i64 x][j]? = some u → w.cell? ⟨vb, 0 + j, none⟩ = some u) (h1v : ∀ u ∈ [Value.int .i64 x], u.oneCell' = true) :
    Calls Try.prog 56 #[.slice (some ⟨g, 0, none⟩) l.length cap, .int .i64 (l.length : Int), .slice (some ⟨vb, 0, none⟩) 1 1] w fun e w' => InR base w w' e (put l l.length x) := by
  have hin : ∀ j, j < [Value.int .i64 x].length → (w.cell? ⟨g, 0 + l.length + j, none⟩).isSome = true := fun j hj => own_some h4 _ (by simp at hj; omega)
  refine (Any2.slices_Insert_int_end_room Try.laysIns g 0 l.length cap vb 0 1 1 [.int .i64 x] w (by omega) hr h6 rfl (fun j hj => hin j (by simpa using hj)) (fun j _ => own_free h4 _) hvs h1v).mono ?_
  rintro e w' ⟨rfl, rfl⟩
  refine ⟨g, cap, by rw [put_len l _ x (Nat.le_refl _)], ?_, by rw [put_len l _ x (Nat.le_refl _)]; exact hr, h3, by rw [size_setCells]; exact hg, Below.cellsW g h3 _ _ (Below.refl _ _)⟩
  intro j hj
  refine ⟨g, 0, rfl, by rw [size_setCells]; exact hg, ?_⟩
  obtain ⟨p1, p2, _⟩ := put_at l l.length x (Nat.le_refl _) j hj
  rw [put_len l _ x (Nat.le_refl _)] at hj
  by_cases c : j < l.length
  · obtain ⟨_, e⟩ := p1 c
    rw [World.cell?_setCells_out _ _ _ _ _ (fun _ _ => Or.inl (by show 0 + j < 0 + l.length; omega)), e, Nat.zero_add]
    exact own_cells h4 h8 j c
  · have hjl : j = l.length := by omega
    rw [p2 hjl]
    have := World.cell?_setCells_in g [Value.int .i64 x] (0 + l.length) w hin 0 (by simp)
    rw [hjl]
    simpa using this
theorem ins_shift (base : Nat) (l : List Int) (g cap : Nat) (cur : Array Value) (t0 : TypeId) (i : Nat) (x : Int) (vb : Nat) (t : TypeId) (w : World) (h3 : base ≤ g) (h4 : w.heap[g]? = some (.cells cur t0 (0, 0))) (hg : g < w.heap.size) (h6 : cap ≤ 9223372036854775807) (h7 : cur.size = cap) (h8 : cur.toList.take (l.length * 1) = intV l) (hr : l.length + 1 ≤ cap) (hi : i < l.length)
    (hv : w.heap[vb]? = some (.cells #[.int .i64 x] t (0, 0))) (hne : vb ≠ g) (hvs : ∀ j u, [Value.int .i64 x][j]? = some u → w.cell? ⟨vb, 0 + j, none⟩ = some u) (h1v : ∀ u ∈ [Value.int .i64 x], u.oneCell' = true) :
    Calls Try.prog 56 #[.slice (some ⟨g, 0, none⟩) l.length cap, .int .i64 (i : Int), .slice (some ⟨vb, 0, none⟩) 1 1] w fun e w' => InR base w w' e (put l i x) := by
  have hsp : ∀ j, j < l.length + 1 → (w.cell? ⟨g, 0 + j, none⟩).isSome = true := fun j hj => own_some h4 _ (by omega)
  refine (Any2.slices_Insert_int_shift Try.laysIns g 0 l.length cap i vb 0 1 1 (intV l) [.int .i64 x] w hi (by omega) hr h6 hne (intV_len l) rfl
    (fun j v hj => ?_) hsp (fun j _ => own_free h4 _) hvs (intV_one l) h1v t t0 1 cap (by simp [World.shape?, hv]) (by simp [World.shape?, h4, h7]) (by omega) (own_free hv _) (own_free hv _)).mono ?_
  · have hjl : j < l.length := by
      rcases Nat.lt_or_ge j l.length with h | h
      · exact h
      · rw [List.getElem?_eq_none (by rw [intV_len]; exact h)] at hj; cases hj
    rw [intV_at l j hjl] at hj
    rw [Nat.zero_add, own_cells h4 h8 j hjl, hj]
  rintro e w' ⟨rfl, rfl⟩
  have hdl : ((intV l).drop i).length = l.length - i := by rw [List.length_drop, intV_len]
  have hin1 : ∀ j, j < ((intV l).drop i).length → (w.drew.cell? ⟨g, 0 + (i + 1) + j, none⟩).isSome = true := fun j hj => by
    rw [hdl] at hj
    have := hsp (i + 1 + j) (by omega)
    rw [← Nat.add_assoc] at this
    exact this
  have hin2 : ∀ j, j < [Value.int .i64 x].length → ((w.drew.setCells g (0 + (i + 1)) ((intV l).drop i)).cell? ⟨g, 0 + i + j, none⟩).isSome = true := fun j hj => by
    simp only [List.length_singleton] at hj
    rw [World.cell?_setCells_out _ _ _ _ _ (fun _ _ => Or.inl (by show 0 + i + j < 0 + (i + 1); omega))]
    have := hsp (i + j) (by omega)
    rw [← Nat.add_assoc] at this
    exact this
  refine ⟨g, cap, by rw [put_len l i x (by omega)], ?_, by rw [put_len l i x (by omega)]; exact hr, h3, by rw [size_setCells, size_setCells]; exact hg, Below.cellsW g h3 _ _ (Below.cellsW g h3 _ _ (Below.refl _ _).drew)⟩
  intro j hj
  refine ⟨g, 0, rfl, by rw [size_setCells, size_setCells]; exact hg, ?_⟩
  obtain ⟨p1, p2, p3⟩ := put_at l i x (by omega) j hj
  rw [put_len l i x (by omega)] at hj
  rcases Nat.lt_trichotomy j i with c | c | c
  · obtain ⟨hjl, e⟩ := p1 c
    rw [World.cell?_setCells_out _ _ _ _ _ (fun _ _ => Or.inl (by show 0 + j < 0 + i; omega)), World.cell?_setCells_out _ _ _ _ _ (fun _ _ => Or.inl (by show 0 + j < 0 + (i + 1); omega)), e, Nat.zero_add]
    exact own_cells h4 h8 j hjl
  · have := World.cell?_setCells_in g [Value.int .i64 x] (0 + i) _ hin2 0 (by simp)
    rw [p2 c, c]
    simpa using this
  · have P3 := Lib.hid (p3 c)
    clear p1 p2 p3
    obtain ⟨k, rfl⟩ : ∃ k, j = i + 1 + k := ⟨j - (i + 1), by omega⟩
    have hk : k < ((intV l).drop i).length := by rw [hdl]; omega
    have hk2 : i + k < l.length := by omega
    have hk3 : i + 1 + k - 1 = i + k := by omega
    have := World.cell?_setCells_in g ((intV l).drop i) (0 + (i + 1)) _ hin1 k hk
    rw [World.cell?_setCells_out _ _ _ _ _ (fun _ _ => Or.inr (by show 0 + i + 1 ≤ 0 + (i + 1 + k); omega)), show 0 + (i + 1 + k) = 0 + (i + 1) + k by omega, this, List.getElem_drop]
    have e2 := intV_at l (i + k) hk2
    rw [List.getElem?_eq_getElem (by rw [intV_len]; exact hk2)] at e2
    obtain ⟨hjl, e⟩ := P3.out
    rw [e]
    simp only [hk3]
    exact e2
theorem ins_endgrow (base : Nat) (l : List Int) (ad : Option Addr) (cap : Nat) (x : Int) (vb : Nat) (w : World) (hb : base ≤ w.heap.size) (hn : l.length ≤ 1000) (hnc : l.length ≤ cap) (hr : cap < l.length + 1) (hL : IntsAt w ad l)
    (hvs : ∀ j u, [Value.int .i64 x][j]? = some u → w.cell? ⟨vb, 0 + j, none⟩ = some u) (h1v : ∀ u ∈ [Value.int .i64 x], u.oneCell' = true) :
    Calls Try.prog 56 #[.slice ad l.length cap, .int .i64 (l.length : Int), .slice (some ⟨vb, 0, none⟩) 1 1] w fun e w' => InR base w w' e (put l l.length x) := by
  refine (Any2.slices_Insert_int_end_grow Try.laysIns ad l.length cap vb 0 1 1 (intV l) [.int .i64 x] w (by omega) hnc hr (by omega) (intV_len l) rfl (fun e => by subst e; rw [hL.none]; rfl) (fun a e => by subst e; exact hL.news) hvs h1v).mono ?_
  rintro e w' ⟨rfl, rfl⟩
  refine ⟨w.heap.size, _, by rw [put_len l _ x (Nat.le_refl _)], ?_, by rw [put_len l _ x (Nat.le_refl _)]; exact grownCap_ge w _ _ _, hb, by rw [size_new]; omega, (Below.refl base w).drew.alloc hb _⟩
  refine ints_new w _ _ _ (fun j hj => ?_)
  have hjl := hj
  rw [put_len l _ x (Nat.le_refl _)] at hjl
  have hsz : ((intV l ++ [Value.int .i64 x]).toArray).size = l.length + 1 := by simp [intV]
  rw [Array.getElem?_append_left (by rw [hsz]; exact hjl)]
  have e1 : intV l ++ [Value.int .i64 x] = intV (put l l.length x) := by rw [put_end, intV_snoc]
  rw [e1]
  simpa using intV_at (put l l.length x) j hj
theorem ins_grow (base : Nat) (l : List Int) (g cap : Nat) (i : Nat) (x : Int) (vb : Nat) (w : World) (hb : base ≤ w.heap.size) (hn : l.length ≤ 1000) (hnc : l.length ≤ cap) (hr : cap < l.length + 1) (hi : i < l.length) (hL : IntsAt w (some ⟨g, 0, none⟩) l)
    (hvs : ∀ j u, [Value.int .i64 x][j]? = some u → w.cell? ⟨vb, 0 + j, none⟩ = some u) (h1v : ∀ u ∈ [Value.int .i64 x], u.oneCell' = true) :
    Calls Try.prog 56 #[.slice (some ⟨g, 0, none⟩) l.length cap, .int .i64 (i : Int), .slice (some ⟨vb, 0, none⟩) 1 1] w fun e w' => InR base w w' e (put l i x) := by
  have hnw := hL.news
  refine (Any2.slices_Insert_int_grow Try.laysIns g 0 l.length cap i vb 0 1 1 (intV l) [.int .i64 x] w hi (by omega) hnc hr (by omega) (intV_len l) rfl (fun j u hu => by rw [← Addr.add_lit]; exact hnw j u hu) hvs (intV_one l) h1v).mono ?_
  rintro e w' ⟨rfl, rfl⟩
  obtain ⟨C, hC⟩ : ∃ C : Array Value, C = (((intV l).take i).toArray ++ Builtin.zeroCells (Value.int .i64 0).cells (l.length + 1 - i) ++ Builtin.zeroCells (Value.int .i64 0).cells (grownCap w (l.length + 1) cap (Try.laysIns_ren.t 3) - (l.length + 1))) := ⟨_, rfl⟩
  rw [← hC]
  have hCs : l.length + 1 ≤ C.size := by rw [hC]; simp [Builtin.zeroCells, Value.cells, intV]; omega
  have hC1 : ∀ j (hj : j < l.length), j < i → C[j]? = some (.int .i64 l[j]) := fun j hj hji => by
    have hs : ((intV l).take i).toArray.size = i := by simp [intV]; omega
    rw [hC, Array.getElem?_append_left (by rw [Array.size_append, hs]; omega), Array.getElem?_append_left (by rw [hs]; exact hji)]
    rw [List.getElem?_toArray, List.getElem?_take_of_lt hji]
    exact intV_at l j hj
  clear hC
  have hdl : ((intV l).drop i).length = l.length - i := by rw [List.length_drop, intV_len]
  have hb0 : ∀ j, (w.alloc (.cells C (Try.laysIns_ren.t 3))).drew.cell? ⟨w.heap.size, j, none⟩ = C[j]? := fun j => World.cell?_alloc_at (w := w) C _ w.heap.size j rfl
  have hin1 : ∀ j, j < [Value.int .i64 x].length → ((w.alloc (.cells C (Try.laysIns_ren.t 3))).drew.cell? ⟨w.heap.size, i + j, none⟩).isSome = true := fun j hj => by
    simp only [List.length_singleton] at hj
    rw [hb0, Array.getElem?_eq_getElem (by omega)]; rfl
  have hin2 : ∀ j, j < ((intV l).drop i).length → ((((w.alloc (.cells C (Try.laysIns_ren.t 3))).drew.setCells w.heap.size i [.int .i64 x]).drew).cell? ⟨w.heap.size, i + 1 + j, none⟩).isSome = true := fun j hj => by
    rw [hdl] at hj
    show (((w.alloc (.cells C (Try.laysIns_ren.t 3))).drew.setCells w.heap.size i [.int .i64 x]).cell? ⟨w.heap.size, i + 1 + j, none⟩).isSome = true
    rw [World.cell?_setCells_out _ _ _ _ _ (fun _ _ => Or.inr (by show i + 1 ≤ i + 1 + j; omega)), hb0, Array.getElem?_eq_getElem (by omega)]; rfl
  have hsz : ((((w.alloc (.cells C (Try.laysIns_ren.t 3))).drew.setCells w.heap.size i [.int .i64 x]).drew).setCells w.heap.size (i + 1) ((intV l).drop i)).heap.size = w.heap.size + 1 := by
    rw [size_setCells]
    show ((w.alloc (.cells C (Try.laysIns_ren.t 3))).drew.setCells w.heap.size i [.int .i64 x]).heap.size = _
    rw [size_setCells]
    simp
  refine ⟨w.heap.size, _, by rw [put_len l i x (by omega)], ?_, by rw [put_len l i x (by omega)]; exact grownCap_ge w _ _ _, hb, by rw [hsz]; omega, Below.cellsW _ hb _ _ (Below.cellsW _ hb _ _ ((Below.refl base w).alloc hb _).drew).drew⟩
  intro j hj
  refine ⟨w.heap.size, 0, rfl, by rw [hsz]; omega, ?_⟩
  rw [Nat.zero_add]
  obtain ⟨p1, p2, p3⟩ := put_at l i x (by omega) j hj
  rw [put_len l i x (by omega)] at hj
  rcases Nat.lt_trichotomy j i with c | c | c
  · obtain ⟨hjl, e⟩ := p1 c
    rw [World.cell?_setCells_out _ _ _ _ _ (fun _ _ => Or.inl (by show j < i + 1; omega))]
    show ((w.alloc (.cells C (Try.laysIns_ren.t 3))).drew.setCells w.heap.size i [.int .i64 x]).cell? ⟨w.heap.size, j, none⟩ = _
    rw [World.cell?_setCells_out _ _ _ _ _ (fun _ _ => Or.inl (by show j < i; omega)), hb0, e]
    exact hC1 j hjl c
  · have := World.cell?_setCells_in w.heap.size [Value.int .i64 x] i _ hin1 0 (by simp)
    rw [World.cell?_setCells_out _ _ _ _ _ (fun _ _ => Or.inl (by show j < i + 1; omega))]
    show ((w.alloc (.cells C (Try.laysIns_ren.t 3))).drew.setCells w.heap.size i [.int .i64 x]).cell? ⟨w.heap.size, j, none⟩ = _
    rw [p2 c, c]
    simpa using this
  · have P3 := Lib.hid (p3 c)
    clear p1 p2 p3
    obtain ⟨k, rfl⟩ : ∃ k, j = i + 1 + k := ⟨j - (i + 1), by omega⟩
    have hk : k < ((intV l).drop i).length := by rw [hdl]; omega
    have hk2 : i + k < l.length := by omega
    have hk3 : i + 1 + k - 1 = i + k := by omega
    have := World.cell?_setCells_in w.heap.size ((intV l).drop i) (i + 1) _ hin2 k hk
    rw [this, List.getElem_drop]
    have e2 := intV_at l (i + k) hk2
    rw [List.getElem?_eq_getElem (by rw [intV_len]; exact hk2)] at e2
    obtain ⟨hjl, e⟩ := P3.out
    rw [e]
    simp only [hk3]
    exact e2
theorem ins_any (base : Nat) (l : List Int) (v : Value) (i : Nat) (x : Int) (vb : Nat) (t : TypeId) (w : World) (ho : w.ownsRow base 3 1 v l.length (intV l)) (hn : l.length ≤ 1000) (hi : i ≤ l.length)
    (hv : w.heap[vb]? = some (.cells #[.int .i64 x] t (0, 0))) (hne : ∀ g, v.ownBlock = some g → vb ≠ g) (hb : base ≤ w.heap.size) :
    Calls Try.prog 56 #[v, .int .i64 (i : Int), .slice (some ⟨vb, 0, none⟩) 1 1] w fun e w' => InR base w w' e (put l i x) := by
  have hvs : ∀ j u, [Value.int .i64 x][j]? = some u → w.cell? ⟨vb, 0 + j, none⟩ = some u := fun j u hu => by
    rw [cell_blk hv, Nat.zero_add]; simpa using hu
  have h1v : ∀ u ∈ [Value.int .i64 x], u.oneCell' = true := fun u hu => by simp at hu; subst hu; rfl
  have hpl := put_len l i x hi
  have hvl : vb < w.heap.size := by
    rcases Nat.lt_or_ge vb w.heap.size with h | h
    · exact h
    · rw [Array.getElem?_eq_none h] at hv; cases hv
  obtain ⟨hl, ⟨rfl, h0⟩ | ⟨g, cap, cur, rfl, h3, h4, h5, h6, h7, h8⟩⟩ := ho
  · have hl0 : l = [] := List.length_eq_zero_iff.1 h0
    subst hl0
    obtain rfl : i = 0 := by simpa using hi
    exact ins_endgrow base [] none 0 x vb w hb (by simp) (by simp) (by simp) IntsAt.nil hvs h1v
  · have hg : g < w.heap.size := by
      rcases Nat.lt_or_ge g w.heap.size with h | h
      · exact h
      · rw [Array.getElem?_eq_none h] at h4; cases h4
    have hm : cap ≤ 9223372036854775807 := by unfold maxLen at h6; omega
    rw [Nat.mul_one] at h7
    have hL : IntsAt w (some ⟨g, 0, none⟩) l := fun j hj => ⟨g, 0, rfl, hg, by rw [Nat.zero_add]; exact own_cells h4 h8 j hj⟩
    have hvg := hne g rfl
    by_cases hr : l.length + 1 ≤ cap
    · rcases Nat.lt_or_ge i l.length with c | c
      · exact ins_shift base l g cap cur _ i x vb t w h3 h4 hg hm h7 h8 hr c hv hvg hvs h1v
      · obtain rfl : i = l.length := by omega
        exact ins_room base l g cap cur _ x vb w h3 h4 hg hm h7 h8 hr hvs h1v
    · rcases Nat.lt_or_ge i l.length with c | c
      · exact ins_grow base l g cap i x vb w hb hn h5 (by omega) c hL hvs h1v
      · obtain rfl : i = l.length := by omega
        exact ins_endgrow base l _ cap x vb w hb hn h5 (by omega) hL hvs h1v
end Go.Proofs.Ythfbpilfdfploaa
namespace Go.Proofs.Ythfbpilfdfploaa
open Go.ChangeShapes Go.WideShapes Go.ChangeAt Go.RowKit

theorem open_hops {H : Type} {enc : TypeId × Value → H} {W : World} {base : Nat} {sp : Nat → Bool} {held : Bool} {fuel : Nat} {c : Value} {x : DataW H × List MemPlace}
    (h : DataW.trod enc Try.prog W base sp held fuel 22 [c] = some x) :
    ∃ ad cap, ∃ L : List (Int × Int), c = .slice ad L.length cap ∧ HopsAt W ad L ∧ L.length ≤ 9223372036854775807 ∧ L.length ≤ cap ∧ (ad = none → cap = 0) := by
  rcases Deep.open_slice_pairs Try.underlying22 Try.underlying83 (by kernel_rfl) rfl rfl (by kernel_rfl) (by kernel_rfl) h with ⟨hcs, _⟩ | ⟨a, len, cap, m, n, V0, V1, D0, D1, P0, P1, hcs, _, hl, hm, hmm, _, hx⟩
  · simp at hcs
    subst hcs
    exact ⟨none, 0, [], rfl, HopsAt.nil, by simp, by simp, fun _ => rfl⟩
  · simp at hcs
    subst hcs
    have hlm : len ≤ m := by rw [hmm]; split <;> omega
    have hint : ∀ i, i < len → ∃ q : Int × Int, W.cell? (a.add (i * 2)) = some (.int .i64 q.1) ∧ W.cell? (a.add (i * 2 + 1)) = some (.int .i64 q.2) := by
      intro i hi
      obtain ⟨h0, h1, t0, t1⟩ := hx i (by omega)
      obtain ⟨z0, e0, _⟩ := DataW.trod_int Try.underlying3 t0
      obtain ⟨z1, e1, _⟩ := DataW.trod_int Try.underlying3 t1
      simp at e0 e1
      exact ⟨(z0, z1), by rw [h0, e0], by rw [h1, e1]⟩
    obtain ⟨q, hq⟩ := Deep.choose_lt hint
    unfold maxLen at hm
    refine ⟨some a, cap, (List.range len).map q, by simp, ?_, by simp; omega, by simpa using hl, fun e => by cases e⟩
    intro j hj
    have hj' : j < len := by simpa using hj
    obtain ⟨c0, c1⟩ := hq j hj'
    obtain ⟨b, off, spot⟩ := a
    have hspot : spot = none := by simpa [Addr.add] using World.cell?_spot (hq 0 (by omega)).1
    subst hspot
    rw [Addr.add_lit] at c0 c1
    refine ⟨b, off, rfl, World.block_lt_of_cell? W _ c0, by simpa using c0, ?_⟩
    rw [← Nat.add_assoc] at c1
    simpa using c1

set_option maxRecDepth 100000 in
theorem open_id {H : Type} {enc : TypeId × Value → H} {W : World} {base : Nat} {v : Value} {d : DataW H} {ps : List MemPlace}
    (hok : Value.okWide Try.prog W .any base 24 v) (h : DataW.Trod enc Try.prog W 0 (fun _ => true) true 24 v d ps) :
    ∃ r n ad cap, ∃ L : List (Int × Int), v = .agg #[.int .i64 r, .int .i64 n, .slice ad L.length cap] ∧ HopsAt W ad L ∧ L.length ≤ 9223372036854775807 ∧ L.length ≤ cap ∧ (ad = none → cap = 0) := by
  obtain ⟨cs, rfl, hsz⟩ := okWide_struct Try.underlying24 hok
  have hsz3 : cs.size = 3 := hsz.trans (by kernel_rfl)
  obtain ⟨l⟩ := cs
  match l, hsz3 with
  | [a, b, c], _ =>
    obtain ⟨fuel, hf⟩ := h
    obtain ⟨y0, y1, y2, n, _, _, t0, t1, t2⟩ := Deep.trod_struct3 Try.underlying24 hf
    have k0 : Try.prog.cellsOf 3 = 1 := by kernel_rfl
    have k1 : Try.prog.cellsOf 22 = 1 := by kernel_rfl
    simp [Value.cells, k0, k1] at t0 t1 t2
    obtain ⟨z0, e0, _⟩ := DataW.trod_int Try.underlying3 t0
    obtain ⟨z1, e1, _⟩ := DataW.trod_int Try.underlying3 t1
    obtain ⟨ad, cap, L, e2, h1, h2, h3, h4⟩ := open_hops t2
    simp at e0 e1
    subst e0 e1 e2
    exact ⟨z0, z1, ad, cap, L, rfl, h1, h2, h3, h4⟩
end Go.Proofs.Ythfbpilfdfploaa
