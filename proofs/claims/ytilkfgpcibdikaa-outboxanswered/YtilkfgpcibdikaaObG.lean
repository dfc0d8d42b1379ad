import Derived.Test.YtilkfgpcibdikaaObB
import Derived.Test.YtilkfgpcibdikaaCloP
import Derived.Test.YtilkfgpcibdikaaCloA
import Derived.Test.YtilkfgpcibdikaaObC
import Derived.Test.YtilkfgpcibdikaaBoP

/- outbox: copiedNote, fresh: notes in new memory. -/
namespace Go.Proofs.Ytilkfgpcibdikaa
open Go.RowKit

/- hops anew, whether there is a row or none -/
set_option maxHeartbeats 1000000 in
set_option maxRecDepth 100000 in
theorem cloneAll_any (L : List (Int × Int)) (ad : Option Addr) (cap : Nat) (w : World) (hL : HopsAt w ad L) (hn : L.length ≤ 1000) :
    Calls Try.prog 50 #[.slice ad L.length cap] w fun e w' => ∃ ad2 cap2, e = .returned (.slice ad2 L.length cap2) ∧ L.length ≤ cap2 ∧ HopsAt w' ad2 L ∧ (∀ a, ad2 = some a → w.heap.size ≤ a.block) ∧ Gr w w' := by
  cases ad with
  | none =>
    cases L with
    | cons x l => obtain ⟨_, _, e, _⟩ := hL 0 (by simp); cases e
    | nil =>
      clear hL hn
      have he : ∀ w : World, (binOp .eql 33 (.slice none 0 cap) (.slice none 0 0)).run Try.prog w = .ok (.bool true) w := fun _ => rfl
      go_enter Try.func50, Try.ntmps50
      go_wp2
      go_ret
      exact ⟨none, 0, rfl, by simp, HopsAt.nil, (fun a e => by cases e), (by repeat (first | exact Gr.refl _ | refine Gr.alloc ?_ | refine Gr.drew ?_ | refine Gr.trans ?_ (by assumption)))⟩
  | some a =>
    obtain ⟨i0, hi, hz0, hz1, hz2⟩ := info_parts infoHop
    have HN : Hid (∀ j u, (hopV L)[j]? = some u → (w.alloc (.cells #[] 63)).cell? (a.add j) = some u) := by
      intro j u hu
      cases L with
      | nil => simp [hopV] at hu
      | cons x l =>
        obtain ⟨b, off, e, _⟩ := hL 0 (by simp)
        cases e
        exact (hL.gr ((Gr.refl w).alloc (o := .cells #[] 63))).news j u hu
    have hln := hopV_len L
    have hm1 : 0 + L.length ≤ maxLen := by unfold maxLen; omega
    clear hL
    have he : ∀ w : World, (binOp .eql 33 (.slice (some a) L.length cap) (.slice none 0 0)).run Try.prog w = .ok (.bool false) w := fun _ => rfl
    go_enter Try.func50, Try.ntmps50
    go_wp2_with (first
      | (at_builtin; refine wpList_append_own _ rfl _ _ 33 rfl w.heap.size 63 i0 (.agg #[.int .i64 0, .int .i64 0]) 2 16 Try.underlying33 hi hz0 hz1 hz2 rfl (by decide) _ _ _ rfl (own_lit0 _ _ _ _ (by simp) (by simp)) a L.length cap (hopV L) rfl hln HN.out (hopV_one L) hm1 (by omega) (by simp) ?_)
      | fail)
    intro v' w1 hown' hgrow _
    obtain ⟨ad2, cap2, rfl, hcp, hia, hfr⟩ := own_hops hown'
    have HI : Hid (HopsAt w1 ad2 L) := hia
    have HFR : Hid (∀ a, ad2 = some a → w.heap.size ≤ a.block) := hfr
    have hb1 : Below w.heap.size w (w.alloc (.cells #[] 63)) := (Below.refl w.heap.size w).alloc (Nat.le_refl _) _
    have HG : Hid (Gr w w1) := ⟨hb1.grown hgrow (by simp) (fun k hk => by simp [Value.ownBlock] at hk; omega)⟩
    clear hown' hia hfr
    go_wp2
    go_ret
    exact ⟨ad2, cap2, rfl, hcp, HI.out, HFR.out, HG.out⟩

/- a note in new memory -/
def CnR (m : Mn) (w : World) (e : Ending) (w' : World) : Prop :=
  ∃ a c, e = .returned (Mn.v ⟨m.x, a, c⟩) ∧ MnAt w' ⟨m.x, a, c⟩ ∧ (∀ p, a = some p → w.heap.size ≤ p.block) ∧ Gr w w'
set_option maxHeartbeats 4000000 in
set_option maxRecDepth 100000 in
theorem copiedNote_any (m : Mn) (w : World) (h : MnAt w m) (hn : m.x.L.length ≤ 1000) (hd : m.x.d.size ≤ 1000) :
    Calls Try.prog 40 #[m.v] w fun e w' => CnR m w e w' := by
  obtain ⟨⟨k, r, n, L, d, y⟩, ad, cap⟩ := m
  have HC : Hid (∀ w', Gr w w' → Calls Try.prog 50 #[.slice ad L.length cap] w' fun e w2 => ∃ ad2 cap2, e = .returned (.slice ad2 L.length cap2) ∧ L.length ≤ cap2 ∧ HopsAt w2 ad2 L ∧ (∀ a, ad2 = some a → w'.heap.size ≤ a.block) ∧ Gr w' w2) := fun w' g => cloneAll_any L ad cap w' (h.hp.gr g) hn
  have HS : Hid (∀ w', Calls Try.prog 51 #[.string d] w' fun e w2 => e = .returned (.string d) ∧ Gr w' w2) := fun w' => sclone_any d w' (by simp only at hd; omega)
  have HL : Hid (L.length ≤ 9223372036854775807 ∧ d.size ≤ 9223372036854775807) := ⟨h.hl, h.hd⟩
  clear h
  dsimp only [Mn.v] at *
  have hll : Hid (∀ w' a c, HopsAt w' a L → L.length ≤ c → MnAt w' ⟨⟨k, r, n, L, d, y⟩, a, c⟩) := fun w' a c h1 h2 => ⟨h1, HL.out.1, h2, HL.out.2⟩
  unfold CnR
  dsimp only [Mn.v]
  generalize hlg : L.length = ll at *
  clear hlg hn hd HL
  go_enter Try.func40, Try.ntmps40
  go_wp2_with fail
  refine (HC.out _ ?_).mono ?_
  · exact (by repeat (first | exact Gr.refl _ | refine Gr.alloc ?_ | refine Gr.drew ?_ | refine Gr.trans ?_ (by assumption)))
  rintro e1 w1 ⟨a2, c2, rfl, hc2, hh2, hf2, hg1⟩
  have hs0 : w.heap.size ≤ w1.heap.size := by have := hg1.size; simp at this; omega
  have G1 : Hid (Gr w w1) := (by repeat (first | exact Gr.refl _ | refine Gr.alloc ?_ | refine Gr.drew ?_ | refine Gr.trans ?_ (by assumption)))
  have B1 := ((Cs.new w [.int .i64 k, .int .i64 r, .int .i64 n, .slice ad ll cap, .string d, .int .i64 y] 37 _ rfl).alloc (o := .cells #[.int .i64 0, .int .i64 0, .int .i64 0, .slice none 0 0, .string ⟨#[]⟩, .int .i64 0] 37)).gr hg1
  have D1 := (Cs.new (w.alloc (.cells #[.int .i64 k, .int .i64 r, .int .i64 n, .slice ad ll cap, .string d, .int .i64 y] 37)) [.int .i64 0, .int .i64 0, .int .i64 0, .slice none 0 0, .string ⟨#[]⟩, .int .i64 0] 37 (w.heap.size + 1) (by simp)).gr hg1
  have HB1 := Lib.hid (B1.set 3 (by simp) (.slice a2 ll c2))
  have HD1 := Lib.hid (D1.far ⟨w.heap.size, 3, none⟩ (.slice a2 ll c2) (by simp))
  have hfb : ∀ a, a2 = some a → w.heap.size + 2 ≤ a.block := fun a e => by have := hf2 a e; simpa using this
  have HF := Lib.hid hfb
  have HH1 := Lib.hid (hh2.set ⟨w.heap.size, 3, none⟩ (.slice a2 ll c2) (fun a e => by have := hfb a e; simp; omega))
  have HC2 := Lib.hid hc2
  have b3 := B1.at_ 3 _ rfl
  have f3 := B1.fz 3 (by simp)
  have bl := B1.lt
  have b4 := HB1.out.at_ 4 _ rfl
  clear hc2 hh2 hf2 hfb HC B1 D1
  go_wp2_with fail
  refine (HS.out _).mono ?_
  rintro e2 w2 ⟨rfl, hg2⟩
  have G2 : Hid (Gr w w2) := (G1.out.set _ (by simp) _).trans hg2
  have HB2 := Lib.hid (HB1.out.gr hg2)
  have HD2 := Lib.hid (HD1.out.gr hg2)
  have HH2 := Lib.hid (HH1.out.gr hg2)
  have x0 := HB2.out.at_ 0 _ rfl
  have x1 := HB2.out.at_ 1 _ rfl
  have x2 := HB2.out.at_ 2 _ rfl
  have x3 := HB2.out.at_ 3 _ rfl
  have x4 := HB2.out.at_ 4 _ rfl
  have x5 := HB2.out.at_ 5 _ rfl
  have xf0 := HB2.out.fz 0 (by simp)
  have xf1 := HB2.out.fz 1 (by simp)
  have xf2 := HB2.out.fz 2 (by simp)
  have xf3 := HB2.out.fz 3 (by simp)
  have xf4 := HB2.out.fz 4 (by simp)
  have xf5 := HB2.out.fz 5 (by simp)
  have xlt := HB2.out.lt
  have y0 := HD2.out.at_ 0 _ rfl
  have y1 := HD2.out.at_ 1 _ rfl
  have y2 := HD2.out.at_ 2 _ rfl
  have y3 := HD2.out.at_ 3 _ rfl
  have y4 := HD2.out.at_ 4 _ rfl
  have y5 := HD2.out.at_ 5 _ rfl
  have yf0 := HD2.out.fz 0 (by simp)
  have yf1 := HD2.out.fz 1 (by simp)
  have yf2 := HD2.out.fz 2 (by simp)
  have yf3 := HD2.out.fz 3 (by simp)
  have yf4 := HD2.out.fz 4 (by simp)
  have yf5 := HD2.out.fz 5 (by simp)
  have ylt := HD2.out.lt
  have hs2 := G2.out.size
  clear hg2 hg1 HB1 HD1 HH1 G1 hs0 b3 f3 bl b4
  go_wp2
  refine bodyPost_ret (v := .agg #[.int .i64 k, .int .i64 r, .int .i64 n, .slice a2 ll c2, .string d, .int .i64 y]) (by simp [results, Try.results40, go_sem, *]) rfl ?_
  refine ⟨a2, c2, rfl, ?_, fun p e => by have := HF.out p e; omega, ?_⟩
  · refine hll.out _ _ _ ?_ HC2.out
    repeat' (first | with_reducible exact HH2.out | with_reducible refine HopsAt.set ?_ _ _ ?_)
    all_goals (intro a e; have := HF.out a e; simp; omega)
  · repeat' (first | with_reducible exact G2.out | with_reducible refine Gr.set ?_ _ ?_ _)
    all_goals (simp; try omega)

set_option maxHeartbeats 4000000 in
set_option maxRecDepth 100000 in
theorem fresh_any (q now : Int) (m : Mn) (w : World) (h : MnAt w m) (hn : m.x.L.length ≤ 1000) (hd : m.x.d.size ≤ 1000) :
    Calls Try.prog 39 #[.int .i64 q, .int .i64 now, m.v] w fun e w' => ∃ a c, e = .returned (Mi.v ⟨q, now, 0, ⟨m.x, a, c⟩⟩) ∧ MnAt w' ⟨m.x, a, c⟩ ∧ (∀ p, a = some p → w.heap.size ≤ p.block) ∧ Gr w w' := by
  have HC : Hid (∀ w', Gr w w' → Calls Try.prog 40 #[m.v] w' fun e w2 => CnR m w' e w2) := fun w' g => copiedNote_any m w' (h.gr g) hn hd
  obtain ⟨⟨k, r, n, L, d, y⟩, ad, cap⟩ := m
  clear h hn hd
  unfold CnR at HC
  have HSet : Hid (∀ w' a c (p : Addr) v, MnAt w' ⟨⟨k, r, n, L, d, y⟩, a, c⟩ → (∀ b, a = some b → p.block ≠ b.block) → MnAt (w'.setCell p v) ⟨⟨k, r, n, L, d, y⟩, a, c⟩) := fun w' a c p v h1 h2 => ⟨h1.hp.set p v h2, h1.hl, h1.hc, h1.hd⟩
  dsimp only [Mn.v, Mi.v] at *
  generalize L.length = ll at *
  go_enter Try.func39, Try.ntmps39
  go_wp2_with fail
  refine (HC.out _ ?_).mono ?_
  · exact (by repeat (first | exact Gr.refl _ | refine Gr.alloc ?_ | refine Gr.drew ?_ | refine Gr.trans ?_ (by assumption)))
  rintro e1 w1 ⟨a2, c2, rfl, hm2, hf2, hg1⟩
  have G1 : Hid (Gr w w1) := (by repeat (first | exact Gr.refl _ | refine Gr.alloc ?_ | refine Gr.drew ?_ | refine Gr.trans ?_ (by assumption)))
  have D1 := (Cs.new (w.alloc (.cells #[.int .i64 k, .int .i64 r, .int .i64 n, .slice ad ll cap, .string d, .int .i64 y] 37)) [.int .i64 0, .int .i64 0, .int .i64 0, .int .i64 0, .int .i64 0, .int .i64 0, .slice none 0 0, .string ⟨#[]⟩, .int .i64 0] 48 (w.heap.size + 1) (by simp)).gr hg1
  have HF : Hid (∀ p, a2 = some p → w.heap.size + 2 ≤ p.block) := fun p e => by have := hf2 p e; simpa using this
  have HM := Lib.hid hm2
  have y0 := D1.at_ 0 _ rfl
  have y1 := D1.at_ 1 _ rfl
  have y2 := D1.at_ 2 _ rfl
  have y3 := D1.at_ 3 _ rfl
  have y4 := D1.at_ 4 _ rfl
  have y5 := D1.at_ 5 _ rfl
  have y6 := D1.at_ 6 _ rfl
  have y7 := D1.at_ 7 _ rfl
  have y8 := D1.at_ 8 _ rfl
  have yf0 := D1.fz 0 (by simp)
  have yf1 := D1.fz 1 (by simp)
  have yf2 := D1.fz 2 (by simp)
  have yf3 := D1.fz 3 (by simp)
  have yf4 := D1.fz 4 (by simp)
  have yf5 := D1.fz 5 (by simp)
  have yf6 := D1.fz 6 (by simp)
  have yf7 := D1.fz 7 (by simp)
  have yf8 := D1.fz 8 (by simp)
  have ylt := D1.lt
  have hs1 := G1.out.size
  clear hm2 hf2 hg1 HC D1
  go_wp2
  refine bodyPost_ret (v := .agg #[.int .i64 q, .int .i64 now, .int .i64 0, .int .i64 k, .int .i64 r, .int .i64 n, .slice a2 ll c2, .string d, .int .i64 y]) (by simp [results, Try.results39, go_sem, *]) rfl ?_
  refine ⟨a2, c2, rfl, ?_, fun p e => by have := HF.out p e; omega, ?_⟩
  · repeat' (first | with_reducible exact HM.out | with_reducible refine HSet.out _ _ _ _ _ ?_ ?_)
    all_goals (intro a e; have := HF.out a e; simp; omega)
  · repeat' (first | with_reducible exact G1.out | with_reducible refine Gr.set ?_ _ ?_ _)
    all_goals (simp; try omega)
end Go.Proofs.Ytilkfgpcibdikaa

/- outbox: copied; chosen, for each of its two closures. -/
namespace Go.Proofs.Ytilkfgpcibdikaa
open Go.RowKit

theorem MnAt.setFar {w : World} {m : Mn} (h : MnAt w m) (p : Addr) (v : Value) (hp : ∀ a, m.ad = some a → p.block ≠ a.block) : MnAt (w.setCell p v) m := ⟨h.hp.set p v hp, h.hl, h.hc, h.hd⟩
/- what a call answers that makes a row of items -/
def BxR (l : List (Ox.It Nx)) (w : World) (e : Ending) (w' : World) : Prop :=
  ∃ a c E, e = .returned (.slice a E.length c) ∧ Bxs w' w.heap.size (.slice a E.length c) E ∧ its E = l ∧ Gr w w'
theorem its_take_succ (D : List Mi) (k : Nat) (h : k < D.length) : (its D).take (k + 1) = (its D).take k ++ [D[k].it] := by
  rw [List.take_succ_eq_append_getElem (by rw [its_len]; exact h), its_get D k h]
theorem own_slice3 {base : Nat} {v : Value} {D : List Mi} {w : World} (h : Bxs w base v D) : ∃ a c, v = .slice a D.length c := by
  obtain ⟨a, c, e, _⟩ := h.at
  exact ⟨a, c, e⟩
theorem ap_new {w : World} {base : Nat} {v : Value} {D : List Mi} (h : Bxs w base v D) {a : Option Addr} (ha : ∀ p, a = some p → w.heap.size ≤ p.block) : ∀ p, a = some p → v.ownBlock ≠ some p.block := by
  intro p e k
  have := (h.own.lt _ k).2
  have := ha p e
  omega

set_option maxHeartbeats 8000000 in
set_option maxRecDepth 100000 in
theorem copied_any (D : List Mi) (ad : Option Addr) (cap : Nat) (w : World) (hD : ItsAt w ad D) (hn : D.length ≤ 1000) (hs : ∀ x ∈ D, x.m.x.L.length ≤ 1000 ∧ x.m.x.d.size ≤ 1000) :
    Calls Try.prog 26 #[.slice ad D.length cap] w fun e w' => BxR (its D) w e w' := by
  obtain ⟨i0, hi0, hz0, hz1, hz2⟩ := info_parts infoItem
  have HC : Hid (∀ x ∈ D, ∀ w', Gr w w' → Calls Try.prog 40 #[x.m.v] w' fun e w2 => CnR x.m w' e w2) := fun x hx w' g => copiedNote_any x.m w' ((hD.nt x hx).gr g) (hs x hx).1 (hs x hx).2
  have HD := Lib.hid hD.row
  clear hD hs
  go_enter Try.func26, Try.ntmps26
  go_wp2
  go_loopw [3, 8] (fun s3 s8 wr => ∃ (k : Nat) (a : Option Addr) (c : Nat) (E : List Mi), s8 = .int .i64 k ∧ s3 = .slice a E.length c ∧ k ≤ D.length ∧ E.length = k ∧ its E = (its D).take k ∧ Bxs wr w.heap.size (.slice a E.length c) E ∧ Gr w wr) (fun _ s8 _ => D.length - (intOf s8).toNat)
  case atStart => exact ⟨0, none, 0, [], rfl, rfl, Nat.zero_le _, rfl, by simp [its], Bxs.nil _ _, Gr.refl _⟩
  case round =>
    obtain ⟨k, a, c, E, rfl, rfl, hk, hE, hEl, hbx, hg⟩ := hrel
    have HG := Lib.hid hg
    have HB := Lib.hid hbx
    have HEl := Lib.hid hEl
    have HEk : Hid (E.length = k) := hE
    have hEb : E.length ≤ 1000 := by omega
    clear hbx hEl hE
    by_cases hlt : k < D.length
    · obtain ⟨b, off, rfl, hbl, d0, d1, d2, d3, d4, d5, d6, d7, d8⟩ := ItsRow.at HD.out k hlt
      have d0 := hg.keep d0
      have d1 := hg.keep d1
      have d2 := hg.keep d2
      have d3 := hg.keep d3
      have d4 := hg.keep d4
      have d5 := hg.keep d5
      have d6 := hg.keep d6
      have d7 := hg.keep d7
      have d8 := hg.keep d8
      have hbw : b < wr.heap.size := Nat.lt_of_lt_of_le hbl hg.size
      have hki : (k : Int) < (D.length : Int) := by omega
      have HX := Lib.hid (HC.out D[k] (List.getElem_mem hlt))
      have HT := Lib.hid (its_take_succ D k hlt)
      clear hg
      generalize D[k] = x at *
      obtain ⟨q, dd, s, ⟨⟨k0, r, n, L, dt, y⟩, ax, cx⟩⟩ := x
      unfold CnR at HX
      have HM : Hid (∀ w' a c, HopsAt w' a L → L.length ≤ 9223372036854775807 → L.length ≤ c → dt.size ≤ 9223372036854775807 → MnAt w' ⟨⟨k0, r, n, L, dt, y⟩, a, c⟩) := fun w' a c h1 h2 h3 h4 => ⟨h1, h2, h3, h4⟩
      dsimp only [Mn.v, Mi.v] at *
      go_wp2_with fail
      refine (HX.out _ (HG.out.trans (by repeat (first | exact Gr.refl _ | refine Gr.alloc ?_ | refine Gr.drew ?_ | refine Gr.trans ?_ (by assumption))))).mono ?_
      rintro e1 w1 ⟨a2, c2, rfl, hm2, hf2, hg1⟩
      have HGw : Hid (Gr wr w1) := (Gr.refl wr).alloc.trans hg1
      have B1 := (Cs.new wr [.int .i64 q, .int .i64 dd, .int .i64 s, .int .i64 k0, .int .i64 r, .int .i64 n, .slice ax L.length cx, .string dt, .int .i64 y] 48 _ rfl).gr hg1
      have y0 := B1.at_ 0 _ rfl
      have y1 := B1.at_ 1 _ rfl
      have y2 := B1.at_ 2 _ rfl
      have y3 := B1.at_ 3 _ rfl
      have y4 := B1.at_ 4 _ rfl
      have y5 := B1.at_ 5 _ rfl
      have y6 := B1.at_ 6 _ rfl
      have y7 := B1.at_ 7 _ rfl
      have y8 := B1.at_ 8 _ rfl
      have yf0 := B1.fz 0 (by simp)
      have yf1 := B1.fz 1 (by simp)
      have yf2 := B1.fz 2 (by simp)
      have yf3 := B1.fz 3 (by simp)
      have yf4 := B1.fz 4 (by simp)
      have yf5 := B1.fz 5 (by simp)
      have yf6 := B1.fz 6 (by simp)
      have yf7 := B1.fz 7 (by simp)
      have yf8 := B1.fz 8 (by simp)
      have ylt := B1.lt
      have hfb : ∀ p, a2 = some p → wr.heap.size + 1 ≤ p.block := fun p e => by have := hf2 p e; simpa using this
      have HFB := Lib.hid hfb
      have hW4 : Gr w1 w1 := Gr.refl _
      obtain ⟨W3, hW3⟩ : ∃ W3, W3 = (((((w1.setCell ⟨wr.heap.size, 3, none⟩ (.int .i64 k0)).setCell ⟨wr.heap.size, 4, none⟩ (.int .i64 r)).setCell ⟨wr.heap.size, 5, none⟩ (.int .i64 n)).setCell ⟨wr.heap.size, 6, none⟩ (.slice a2 L.length c2)).setCell ⟨wr.heap.size, 7, none⟩ (.string dt)).setCell ⟨wr.heap.size, 8, none⟩ (.int .i64 y) := ⟨_, rfl⟩
      have hs3 : W3.heap.size = w1.heap.size := by rw [hW3]; simp
      have g3 : Gr wr W3 := by
        rw [hW3]
        repeat' (first | with_reducible exact HGw.out | with_reducible refine Gr.set ?_ _ ?_ _)
        all_goals simp
      have m3 : MnAt W3 ⟨⟨k0, r, n, L, dt, y⟩, a2, c2⟩ := by
        rw [hW3]
        repeat' (first | with_reducible exact hm2 | with_reducible refine MnAt.setFar ?_ _ _ ?_)
        all_goals (intro p e; have := hfb p e; simp; omega)
      have hwr : wr.heap.size + 1 ≤ w1.heap.size := by have := hg1.size; simpa using this
      have HOw := Lib.hid ((HB.out.gr g3).gr ((Gr.refl W3).alloc (o := .cells #[.int .i64 q, .int .i64 dd, .int .i64 s, .int .i64 k0, .int .i64 r, .int .i64 n, .slice a2 L.length c2, .string dt, .int .i64 y] 48)))
      have HM4 := Lib.hid (m3.gr ((Gr.refl W3).alloc (o := .cells #[.int .i64 q, .int .i64 dd, .int .i64 s, .int .i64 k0, .int .i64 r, .int .i64 n, .slice a2 L.length c2, .string dt, .int .i64 y] 48)))
      have HG4 : Hid (Gr w (W3.alloc (.cells #[.int .i64 q, .int .i64 dd, .int .i64 s, .int .i64 k0, .int .i64 r, .int .i64 n, .slice a2 L.length c2, .string dt, .int .i64 y] 48))) := (HG.out.trans g3).alloc
      have hnw := i_new W3 ⟨q, dd, s, ⟨⟨k0, r, n, L, dt, y⟩, a2, c2⟩⟩ 48
      rw [hs3, show (iC ⟨q, dd, s, ⟨⟨k0, r, n, L, dt, y⟩, a2, c2⟩⟩).toArray = #[.int .i64 q, .int .i64 dd, .int .i64 s, .int .i64 k0, .int .i64 r, .int .i64 n, .slice a2 L.length c2, .string dt, .int .i64 y] from rfl] at hnw
      have HNw := Lib.hid hnw
      have HAp : Hid (∀ p, a2 = some p → (Value.slice a E.length c).ownBlock ≠ some p.block) := ap_new HB.out (fun p e => by have := hfb p e; omega)
      have hlen4 : w.heap.size ≤ w1.heap.size := by have := HG.out.size; omega
      have HB0 := Lib.hid hs3
      subst hW3
      clear hm2 hf2 hg1 hfb g3 m3 hnw HX HM d0 d1 d2 d3 d4 d5 d6 d7 d8 B1 hs3
      have hm1 : E.length + 1 ≤ maxLen := by unfold maxLen; omega
      go_wp2_with (first
        | (at_builtin; refine wpList_append_own_at _ rfl _ _ 22 rfl w.heap.size 48 i0 (.agg #[.int .i64 0, .int .i64 0, .int .i64 0, .int .i64 0, .int .i64 0, .int .i64 0, .slice none 0 0, .string ⟨#[]⟩, .int .i64 0]) 9 96 Try.underlying22 hi0 hz0 hz1 hz2 rfl (by decide) _ _ _ rfl HOw.out.own ⟨w1.heap.size, 0, none⟩ 1 1 ([(⟨q, dd, s, ⟨⟨k0, r, n, L, dt, y⟩, a2, c2⟩⟩ : Mi)].flatMap iC) rfl rfl HNw.out (i_one _) hm1 (by omega) (by simp; omega) ?_)
        | fail)
      intro v' w5 hown' hgrow _ hat
      have hmo := Bxs.more (x := ⟨q, dd, s, ⟨⟨k0, r, n, L, dt, y⟩, a2, c2⟩⟩) HOw.out HM4.out (fun _ => HAp.out) hown' hgrow (by simpa using hat)
      obtain ⟨a5, c5, rfl⟩ := own_slice3 hmo
      have HMo := Lib.hid hmo
      have HG5 := Lib.hid (HOw.out.grown HG4.out hgrow (Nat.le_refl _))
      have HL5 : Hid (its (E ++ [(⟨q, dd, s, ⟨⟨k0, r, n, L, dt, y⟩, a2, c2⟩⟩ : Mi)]) = (its D).take (k + 1)) := by
        show _ = _
        rw [its_app, HEl.out, HT.out]; rfl
      clear hmo hown' hgrow hat yf0 yf1 yf2 yf3 yf4 yf5 yf6 yf7 yf8 y0 y1 y2 y3 y4 y5 y6 y7 y8 HOw HM4 HNw HAp
      go_wp2
      go_roundw
      case rel => exact ⟨k + 1, a5, c5, E ++ [(⟨q, dd, s, ⟨⟨k0, r, n, L, dt, y⟩, a2, c2⟩⟩ : Mi)], by go_num, rfl, by omega, by have := HEk.out; simp; omega, HL5.out, HMo.out, HG5.out⟩
      case measure => simp [intOf]; omega
    · have hge : ¬ ((k : Int) < (D.length : Int)) := by omega
      have HL : Hid (its E = its D) := by
        show _ = _
        rw [HEl.out, List.take_of_length_le (by rw [its_len]; omega)]
      go_wp2
      go_ret
      exact ⟨a, c, E, rfl, HB.out, HL.out, HG.out⟩

end Go.Proofs.Ytilkfgpcibdikaa

/- outbox: chosen, for each of its two closures. -/
namespace Go.Proofs.Ytilkfgpcibdikaa
open Go.RowKit

set_option maxHeartbeats 1000000 in
theorem closeDue_any (x : Mi) (z : Int) (g : Nat) (w : World) (hb : w.cell? ⟨g, 0, none⟩ = some (.int .i64 z)) :
    Calls Try.prog 34 #[x.v, .pointer (some ⟨g, 0, none⟩)] w fun e w' => e = .returned (.bool (decide (x.d ≤ z))) ∧ Gr w w' := by
  obtain ⟨q, dd, s, ⟨⟨k, r, n, L, d, y⟩, ad, cap⟩⟩ := x
  have clt := World.block_lt_of_cell? w _ hb
  dsimp only [Mn.v, Mi.v] at *
  generalize L.length = ll at *
  go_enter Try.func34, Try.ntmps34
  go_wp2
  go_ret
  exact ⟨rfl, (by repeat (first | exact Gr.refl _ | refine Gr.alloc ?_ | refine Gr.drew ?_ | refine Gr.trans ?_ (by assumption)))⟩

set_option maxHeartbeats 8000000 in
set_option maxRecDepth 100000 in
theorem chosenDue_any (D : List Mi) (z : Int) (ad : Option Addr) (cap g : Nat) (w : World) (hD : ItsAt w ad D) (hn : D.length ≤ 1000) (hb : w.cell? ⟨g, 0, none⟩ = some (.int .i64 z)) :
    Calls Try.prog 36 #[.slice ad D.length cap, .func (.func 34) #[] #[.pointer (some ⟨g, 0, none⟩)]] w fun e w' => BxR (its (D.filter fun x => decide (x.d ≤ z))) w e w' := by
  obtain ⟨i0, hi0, hz0, hz1, hz2⟩ := info_parts infoItem
  have HC : Hid (∀ x w', Gr w w' → Calls Try.prog 34 #[Mi.v x, .pointer (some ⟨g, 0, none⟩)] w' fun e w2 => e = .returned (.bool (decide (x.d ≤ z))) ∧ Gr w' w2) := fun x w' gr => closeDue_any x z g w' (gr.keep hb)
  have HD := Lib.hid hD.row
  have HN := Lib.hid hD.nt
  clear hD hb
  go_enter Try.func36, Try.ntmps36
  go_wp2
  go_loopw [5, 10] (fun s5 s10 wr => ∃ (k : Nat) (a : Option Addr) (c : Nat) (E : List Mi), s10 = .int .i64 k ∧ s5 = .slice a E.length c ∧ k ≤ D.length ∧ E.length ≤ k ∧ E = (D.take k).filter (fun x => decide (x.d ≤ z)) ∧ Bxs wr w.heap.size (.slice a E.length c) E ∧ Gr w wr) (fun _ s10 _ => D.length - (intOf s10).toNat)
  case atStart => exact ⟨0, none, 0, [], rfl, rfl, Nat.zero_le _, Nat.le_refl _, by simp, Bxs.nil _ _, Gr.refl _⟩
  case round =>
    obtain ⟨k, a, c, E, rfl, rfl, hk, hE, hEl, hbx, hg⟩ := hrel
    have HG := Lib.hid hg
    have HB := Lib.hid hbx
    have HEl := Lib.hid hEl
    have HEk : Hid (E.length ≤ k) := hE
    have hEb : E.length ≤ 1000 := by omega
    clear hbx hEl hE
    by_cases hlt : k < D.length
    · obtain ⟨b, off, rfl, hbl, d0, d1, d2, d3, d4, d5, d6, d7, d8⟩ := ItsRow.at HD.out k hlt
      have d0 := hg.keep d0
      have d1 := hg.keep d1
      have d2 := hg.keep d2
      have d3 := hg.keep d3
      have d4 := hg.keep d4
      have d5 := hg.keep d5
      have d6 := hg.keep d6
      have d7 := hg.keep d7
      have d8 := hg.keep d8
      have hbw : b < wr.heap.size := Nat.lt_of_lt_of_le hbl hg.size
      have hki : (k : Int) < (D.length : Int) := by omega
      have HX := Lib.hid (HC.out D[k])
      have HNx := Lib.hid (HN.out D[k] (List.getElem_mem hlt))
      have HT : Hid ((D.take (k + 1)).filter (fun x => decide (x.d ≤ z)) = (D.take k).filter (fun x => decide (x.d ≤ z)) ++ [D[k]].filter (fun x => decide (x.d ≤ z))) := by
        show _ = _
        rw [List.take_succ_eq_append_getElem hlt, List.filter_append]
      clear hg
      generalize D[k] = x at *
      cases hp : decide (x.d ≤ z) with
      | true =>
        have HT2 : Hid ((D.take (k + 1)).filter (fun x => decide (x.d ≤ z)) = E ++ [x]) := by
          show _ = _
          rw [HT.out, ← HEl.out, List.filter_cons, hp]; rfl
        rw [hp] at HX
        clear hp HT HEl
        obtain ⟨q, dd, s, ⟨⟨k0, r, n, L, dt, y⟩, ax, cx⟩⟩ := x
        dsimp only [Mn.v, Mi.v] at *
        go_wp2_with fail
        refine (HX.out _ (HG.out.trans (by repeat (first | exact Gr.refl _ | refine Gr.alloc ?_ | refine Gr.drew ?_ | refine Gr.trans ?_ (by assumption))))).mono ?_
        rintro e1 w1 ⟨rfl, hg1⟩
        have g3 : Gr wr w1 := (Gr.refl wr).alloc.trans hg1
        have B1 := (Cs.new wr [.int .i64 q, .int .i64 dd, .int .i64 s, .int .i64 k0, .int .i64 r, .int .i64 n, .slice ax L.length cx, .string dt, .int .i64 y] 48 _ rfl).gr hg1
        have y0 := B1.at_ 0 _ rfl
        have y1 := B1.at_ 1 _ rfl
        have y2 := B1.at_ 2 _ rfl
        have y3 := B1.at_ 3 _ rfl
        have y4 := B1.at_ 4 _ rfl
        have y5 := B1.at_ 5 _ rfl
        have y6 := B1.at_ 6 _ rfl
        have y7 := B1.at_ 7 _ rfl
        have y8 := B1.at_ 8 _ rfl
        have yf0 := B1.fz 0 (by simp)
        have yf1 := B1.fz 1 (by simp)
        have yf2 := B1.fz 2 (by simp)
        have yf3 := B1.fz 3 (by simp)
        have yf4 := B1.fz 4 (by simp)
        have yf5 := B1.fz 5 (by simp)
        have yf6 := B1.fz 6 (by simp)
        have yf7 := B1.fz 7 (by simp)
        have yf8 := B1.fz 8 (by simp)
        have ylt := B1.lt
        have HOw := Lib.hid ((HB.out.gr g3).gr ((Gr.refl w1).alloc (o := .cells #[.int .i64 q, .int .i64 dd, .int .i64 s, .int .i64 k0, .int .i64 r, .int .i64 n, .slice ax L.length cx, .string dt, .int .i64 y] 48)))
        have HM4 := Lib.hid ((HNx.out.gr (HG.out.trans g3)).gr ((Gr.refl w1).alloc (o := .cells #[.int .i64 q, .int .i64 dd, .int .i64 s, .int .i64 k0, .int .i64 r, .int .i64 n, .slice ax L.length cx, .string dt, .int .i64 y] 48)))
        have HG4 : Hid (Gr w (w1.alloc (.cells #[.int .i64 q, .int .i64 dd, .int .i64 s, .int .i64 k0, .int .i64 r, .int .i64 n, .slice ax L.length cx, .string dt, .int .i64 y] 48))) := (HG.out.trans g3).alloc
        have hnw := i_new w1 ⟨q, dd, s, ⟨⟨k0, r, n, L, dt, y⟩, ax, cx⟩⟩ 48
        rw [show (iC ⟨q, dd, s, ⟨⟨k0, r, n, L, dt, y⟩, ax, cx⟩⟩).toArray = #[.int .i64 q, .int .i64 dd, .int .i64 s, .int .i64 k0, .int .i64 r, .int .i64 n, .slice ax L.length cx, .string dt, .int .i64 y] from rfl] at hnw
        have HNw := Lib.hid hnw
        clear hnw
        have HAp : Hid (L ≠ [] → ∀ p, ax = some p → (Value.slice a E.length c).ownBlock ≠ some p.block) := by
          intro hne p e kk
          have h1 := (HB.out.own.lt _ kk).1
          have h2 := hops_lt HNx.out.hp hne e
          omega
        have hlen4 : w.heap.size ≤ w1.heap.size := Nat.le_trans HG.out.size g3.size
        clear hg1 g3 HX HNx d0 d1 d2 d3 d4 d5 d6 d7 d8 B1
        have hm1 : E.length + 1 ≤ maxLen := by unfold maxLen; omega
        go_wp2_with (first
          | (at_builtin; refine wpList_append_own_at _ rfl _ _ 22 rfl w.heap.size 48 i0 (.agg #[.int .i64 0, .int .i64 0, .int .i64 0, .int .i64 0, .int .i64 0, .int .i64 0, .slice none 0 0, .string ⟨#[]⟩, .int .i64 0]) 9 96 Try.underlying22 hi0 hz0 hz1 hz2 rfl (by decide) _ _ _ rfl HOw.out.own ⟨w1.heap.size, 0, none⟩ 1 1 ([(⟨q, dd, s, ⟨⟨k0, r, n, L, dt, y⟩, ax, cx⟩⟩ : Mi)].flatMap iC) rfl rfl HNw.out (i_one _) hm1 (by omega) (by simp; omega) ?_)
          | fail)
        intro v' w5 hown' hgrow _ hat
        have hmo := Bxs.more (x := ⟨q, dd, s, ⟨⟨k0, r, n, L, dt, y⟩, ax, cx⟩⟩) HOw.out HM4.out HAp.out hown' hgrow (by simpa using hat)
        obtain ⟨a5, c5, rfl⟩ := own_slice3 hmo
        have HMo := Lib.hid hmo
        have HG5 := Lib.hid (HOw.out.grown HG4.out hgrow (Nat.le_refl _))
        clear hmo hown' hgrow hat yf0 yf1 yf2 yf3 yf4 yf5 yf6 yf7 yf8 y0 y1 y2 y3 y4 y5 y6 y7 y8 HOw HM4 HNw HAp
        go_wp2
        go_roundw
        case rel => exact ⟨k + 1, a5, c5, E ++ [(⟨q, dd, s, ⟨⟨k0, r, n, L, dt, y⟩, ax, cx⟩⟩ : Mi)], by go_num, rfl, by omega, by have := HEk.out; simp; omega, HT2.out.symm, HMo.out, HG5.out⟩
        case measure => simp [intOf]; omega
      | false =>
        have HT2 : Hid ((D.take (k + 1)).filter (fun x => decide (x.d ≤ z)) = E) := by
          show _ = _
          rw [HT.out, ← HEl.out, List.filter_cons, hp]; simp
        rw [hp] at HX
        clear hp HT HEl
        obtain ⟨q, dd, s, ⟨⟨k0, r, n, L, dt, y⟩, ax, cx⟩⟩ := x
        dsimp only [Mn.v, Mi.v] at *
        go_wp2_with fail
        refine (HX.out _ (HG.out.trans (by repeat (first | exact Gr.refl _ | refine Gr.alloc ?_ | refine Gr.drew ?_ | refine Gr.trans ?_ (by assumption))))).mono ?_
        rintro e1 w1 ⟨rfl, hg1⟩
        have g3 : Gr wr w1 := (Gr.refl wr).alloc.trans hg1
        have HB2 := Lib.hid (HB.out.gr g3)
        have HG2 := Lib.hid (HG.out.trans g3)
        clear hg1 g3 HX HNx d0 d1 d2 d3 d4 d5 d6 d7 d8
        go_wp2
        go_roundw
        case rel => exact ⟨k + 1, a, c, E, by go_num, rfl, by omega, by have := HEk.out; omega, HT2.out.symm, HB2.out, HG2.out⟩
        case measure => simp [intOf]; omega
    · have hge : ¬ ((k : Int) < (D.length : Int)) := by omega
      have HL : Hid (its E = its (D.filter fun x => decide (x.d ≤ z))) := by
        show _ = _
        rw [HEl.out, List.take_of_length_le (by omega)]
      go_wp2
      go_ret
      exact ⟨a, c, E, rfl, HB.out, HL.out, HG.out⟩

set_option maxHeartbeats 1000000 in
theorem closeAns_any (x : Mi) (z : Int) (g : Nat) (w : World) (hb : w.cell? ⟨g, 0, none⟩ = some (.int .i64 z)) :
    Calls Try.prog 38 #[x.v, .pointer (some ⟨g, 0, none⟩)] w fun e w' => e = .returned (.bool (decide (z < x.q))) ∧ Gr w w' := by
  obtain ⟨q, dd, s, ⟨⟨k, r, n, L, d, y⟩, ad, cap⟩⟩ := x
  have clt := World.block_lt_of_cell? w _ hb
  dsimp only [Mn.v, Mi.v] at *
  generalize L.length = ll at *
  go_enter Try.func38, Try.ntmps38
  go_wp2
  go_ret
  exact ⟨rfl, (by repeat (first | exact Gr.refl _ | refine Gr.alloc ?_ | refine Gr.drew ?_ | refine Gr.trans ?_ (by assumption)))⟩

set_option maxHeartbeats 8000000 in
set_option maxRecDepth 100000 in
theorem chosenAns_any (D : List Mi) (z : Int) (ad : Option Addr) (cap g : Nat) (w : World) (hD : ItsAt w ad D) (hn : D.length ≤ 1000) (hb : w.cell? ⟨g, 0, none⟩ = some (.int .i64 z)) :
    Calls Try.prog 36 #[.slice ad D.length cap, .func (.func 38) #[] #[.pointer (some ⟨g, 0, none⟩)]] w fun e w' => BxR (its (D.filter fun x => decide (z < x.q))) w e w' := by
  obtain ⟨i0, hi0, hz0, hz1, hz2⟩ := info_parts infoItem
  have HC : Hid (∀ x w', Gr w w' → Calls Try.prog 38 #[Mi.v x, .pointer (some ⟨g, 0, none⟩)] w' fun e w2 => e = .returned (.bool (decide (z < x.q))) ∧ Gr w' w2) := fun x w' gr => closeAns_any x z g w' (gr.keep hb)
  have HD := Lib.hid hD.row
  have HN := Lib.hid hD.nt
  clear hD hb
  go_enter Try.func36, Try.ntmps36
  go_wp2
  go_loopw [5, 10] (fun s5 s10 wr => ∃ (k : Nat) (a : Option Addr) (c : Nat) (E : List Mi), s10 = .int .i64 k ∧ s5 = .slice a E.length c ∧ k ≤ D.length ∧ E.length ≤ k ∧ E = (D.take k).filter (fun x => decide (z < x.q)) ∧ Bxs wr w.heap.size (.slice a E.length c) E ∧ Gr w wr) (fun _ s10 _ => D.length - (intOf s10).toNat)
  case atStart => exact ⟨0, none, 0, [], rfl, rfl, Nat.zero_le _, Nat.le_refl _, by simp, Bxs.nil _ _, Gr.refl _⟩
  case round =>
    obtain ⟨k, a, c, E, rfl, rfl, hk, hE, hEl, hbx, hg⟩ := hrel
    have HG := Lib.hid hg
    have HB := Lib.hid hbx
    have HEl := Lib.hid hEl
    have HEk : Hid (E.length ≤ k) := hE
    have hEb : E.length ≤ 1000 := by omega
    clear hbx hEl hE
    by_cases hlt : k < D.length
    · obtain ⟨b, off, rfl, hbl, d0, d1, d2, d3, d4, d5, d6, d7, d8⟩ := ItsRow.at HD.out k hlt
      have d0 := hg.keep d0
      have d1 := hg.keep d1
      have d2 := hg.keep d2
      have d3 := hg.keep d3
      have d4 := hg.keep d4
      have d5 := hg.keep d5
      have d6 := hg.keep d6
      have d7 := hg.keep d7
      have d8 := hg.keep d8
      have hbw : b < wr.heap.size := Nat.lt_of_lt_of_le hbl hg.size
      have hki : (k : Int) < (D.length : Int) := by omega
      have HX := Lib.hid (HC.out D[k])
      have HNx := Lib.hid (HN.out D[k] (List.getElem_mem hlt))
      have HT : Hid ((D.take (k + 1)).filter (fun x => decide (z < x.q)) = (D.take k).filter (fun x => decide (z < x.q)) ++ [D[k]].filter (fun x => decide (z < x.q))) := by
        show _ = _
        rw [List.take_succ_eq_append_getElem hlt, List.filter_append]
      clear hg
      generalize D[k] = x at *
      cases hp : decide (z < x.q) with
      | true =>
        have HT2 : Hid ((D.take (k + 1)).filter (fun x => decide (z < x.q)) = E ++ [x]) := by
          show _ = _
          rw [HT.out, ← HEl.out, List.filter_cons, hp]; rfl
        rw [hp] at HX
        clear hp HT HEl
        obtain ⟨q, dd, s, ⟨⟨k0, r, n, L, dt, y⟩, ax, cx⟩⟩ := x
        dsimp only [Mn.v, Mi.v] at *
        go_wp2_with fail
        refine (HX.out _ (HG.out.trans (by repeat (first | exact Gr.refl _ | refine Gr.alloc ?_ | refine Gr.drew ?_ | refine Gr.trans ?_ (by assumption))))).mono ?_
        rintro e1 w1 ⟨rfl, hg1⟩
        have g3 : Gr wr w1 := (Gr.refl wr).alloc.trans hg1
        have B1 := (Cs.new wr [.int .i64 q, .int .i64 dd, .int .i64 s, .int .i64 k0, .int .i64 r, .int .i64 n, .slice ax L.length cx, .string dt, .int .i64 y] 48 _ rfl).gr hg1
        have y0 := B1.at_ 0 _ rfl
        have y1 := B1.at_ 1 _ rfl
        have y2 := B1.at_ 2 _ rfl
        have y3 := B1.at_ 3 _ rfl
        have y4 := B1.at_ 4 _ rfl
        have y5 := B1.at_ 5 _ rfl
        have y6 := B1.at_ 6 _ rfl
        have y7 := B1.at_ 7 _ rfl
        have y8 := B1.at_ 8 _ rfl
        have yf0 := B1.fz 0 (by simp)
        have yf1 := B1.fz 1 (by simp)
        have yf2 := B1.fz 2 (by simp)
        have yf3 := B1.fz 3 (by simp)
        have yf4 := B1.fz 4 (by simp)
        have yf5 := B1.fz 5 (by simp)
        have yf6 := B1.fz 6 (by simp)
        have yf7 := B1.fz 7 (by simp)
        have yf8 := B1.fz 8 (by simp)
        have ylt := B1.lt
        have HOw := Lib.hid ((HB.out.gr g3).gr ((Gr.refl w1).alloc (o := .cells #[.int .i64 q, .int .i64 dd, .int .i64 s, .int .i64 k0, .int .i64 r, .int .i64 n, .slice ax L.length cx, .string dt, .int .i64 y] 48)))
        have HM4 := Lib.hid ((HNx.out.gr (HG.out.trans g3)).gr ((Gr.refl w1).alloc (o := .cells #[.int .i64 q, .int .i64 dd, .int .i64 s, .int .i64 k0, .int .i64 r, .int .i64 n, .slice ax L.length cx, .string dt, .int .i64 y] 48)))
        have HG4 : Hid (Gr w (w1.alloc (.cells #[.int .i64 q, .int .i64 dd, .int .i64 s, .int .i64 k0, .int .i64 r, .int .i64 n, .slice ax L.length cx, .string dt, .int .i64 y] 48))) := (HG.out.trans g3).alloc
        have hnw := i_new w1 ⟨q, dd, s, ⟨⟨k0, r, n, L, dt, y⟩, ax, cx⟩⟩ 48
        rw [show (iC ⟨q, dd, s, ⟨⟨k0, r, n, L, dt, y⟩, ax, cx⟩⟩).toArray = #[.int .i64 q, .int .i64 dd, .int .i64 s, .int .i64 k0, .int .i64 r, .int .i64 n, .slice ax L.length cx, .string dt, .int .i64 y] from rfl] at hnw
        have HNw := Lib.hid hnw
        clear hnw
        have HAp : Hid (L ≠ [] → ∀ p, ax = some p → (Value.slice a E.length c).ownBlock ≠ some p.block) := by
          intro hne p e kk
          have h1 := (HB.out.own.lt _ kk).1
          have h2 := hops_lt HNx.out.hp hne e
          omega
        have hlen4 : w.heap.size ≤ w1.heap.size := Nat.le_trans HG.out.size g3.size
        clear hg1 g3 HX HNx d0 d1 d2 d3 d4 d5 d6 d7 d8 B1
        have hm1 : E.length + 1 ≤ maxLen := by unfold maxLen; omega
        go_wp2_with (first
          | (at_builtin; refine wpList_append_own_at _ rfl _ _ 22 rfl w.heap.size 48 i0 (.agg #[.int .i64 0, .int .i64 0, .int .i64 0, .int .i64 0, .int .i64 0, .int .i64 0, .slice none 0 0, .string ⟨#[]⟩, .int .i64 0]) 9 96 Try.underlying22 hi0 hz0 hz1 hz2 rfl (by decide) _ _ _ rfl HOw.out.own ⟨w1.heap.size, 0, none⟩ 1 1 ([(⟨q, dd, s, ⟨⟨k0, r, n, L, dt, y⟩, ax, cx⟩⟩ : Mi)].flatMap iC) rfl rfl HNw.out (i_one _) hm1 (by omega) (by simp; omega) ?_)
          | fail)
        intro v' w5 hown' hgrow _ hat
        have hmo := Bxs.more (x := ⟨q, dd, s, ⟨⟨k0, r, n, L, dt, y⟩, ax, cx⟩⟩) HOw.out HM4.out HAp.out hown' hgrow (by simpa using hat)
        obtain ⟨a5, c5, rfl⟩ := own_slice3 hmo
        have HMo := Lib.hid hmo
        have HG5 := Lib.hid (HOw.out.grown HG4.out hgrow (Nat.le_refl _))
        clear hmo hown' hgrow hat yf0 yf1 yf2 yf3 yf4 yf5 yf6 yf7 yf8 y0 y1 y2 y3 y4 y5 y6 y7 y8 HOw HM4 HNw HAp
        go_wp2
        go_roundw
        case rel => exact ⟨k + 1, a5, c5, E ++ [(⟨q, dd, s, ⟨⟨k0, r, n, L, dt, y⟩, ax, cx⟩⟩ : Mi)], by go_num, rfl, by omega, by have := HEk.out; simp; omega, HT2.out.symm, HMo.out, HG5.out⟩
        case measure => simp [intOf]; omega
      | false =>
        have HT2 : Hid ((D.take (k + 1)).filter (fun x => decide (z < x.q)) = E) := by
          show _ = _
          rw [HT.out, ← HEl.out, List.filter_cons, hp]; simp
        rw [hp] at HX
        clear hp HT HEl
        obtain ⟨q, dd, s, ⟨⟨k0, r, n, L, dt, y⟩, ax, cx⟩⟩ := x
        dsimp only [Mn.v, Mi.v] at *
        go_wp2_with fail
        refine (HX.out _ (HG.out.trans (by repeat (first | exact Gr.refl _ | refine Gr.alloc ?_ | refine Gr.drew ?_ | refine Gr.trans ?_ (by assumption))))).mono ?_
        rintro e1 w1 ⟨rfl, hg1⟩
        have g3 : Gr wr w1 := (Gr.refl wr).alloc.trans hg1
        have HB2 := Lib.hid (HB.out.gr g3)
        have HG2 := Lib.hid (HG.out.trans g3)
        clear hg1 g3 HX HNx d0 d1 d2 d3 d4 d5 d6 d7 d8
        go_wp2
        go_roundw
        case rel => exact ⟨k + 1, a, c, E, by go_num, rfl, by omega, by have := HEk.out; omega, HT2.out.symm, HB2.out, HG2.out⟩
        case measure => simp [intOf]; omega
    · have hge : ¬ ((k : Int) < (D.length : Int)) := by omega
      have HL : Hid (its E = its (D.filter fun x => decide (z < x.q))) := by
        show _ = _
        rw [HEl.out, List.take_of_length_le (by omega)]
      go_wp2
      go_ret
      exact ⟨a, c, E, rfl, HB.out, HL.out, HG.out⟩

end Go.Proofs.Ytilkfgpcibdikaa

/- outbox: sent; Answered. -/
namespace Go.Proofs.Ytilkfgpcibdikaa
open Go.RowKit

theorem flat_set {α : Type} {f : α → List Value} {c : Nat} (hc : ∀ x, (f x).length = c) (L : List α) : ∀ (j : Nat) (h : j < L.length) (i : Nat) (_ : i < c) (y : α) (u : Value) (_ : f y = (f L[j]).set i u), (L.flatMap f).set (j * c + i) u = (L.set j y).flatMap f := by
  induction L with
  | nil => intro j h; simp at h
  | cons x t ih =>
    intro j h i hi y u e
    cases j with
    | zero =>
      rw [Nat.zero_mul, Nat.zero_add, List.flatMap_cons, List.set_append_left _ _ (by rw [hc]; exact hi), List.set_cons_zero, List.flatMap_cons, e]; rfl
    | succ j =>
      rw [List.flatMap_cons, Nat.add_mul, Nat.one_mul, List.set_append_right _ _ (by rw [hc]; omega), hc, show j * c + c + i - c = j * c + i by omega, List.set_cons_succ, List.flatMap_cons, ih j (by simpa using h) i hi y u e]
theorem own_form3 {w : World} {base : Nat} {e : TypeId} {size n : Nat} {v : Value} {xs : List Value} (h : w.ownsRow base e size v n xs) (hn : 0 < n) : ∃ g cap, v = .slice (some ⟨g, 0, none⟩) n cap ∧ base ≤ g ∧ g < w.heap.size ∧ n ≤ cap := by
  have hlt := h.lt
  obtain ⟨_, ⟨rfl, h0⟩ | ⟨g, cap, cur, rfl, hx⟩⟩ := h
  · omega
  · exact ⟨g, cap, rfl, (hlt g rfl).1, (hlt g rfl).2, hx.2.2.1⟩
theorem own_cell3 {w : World} {base : Nat} {e : TypeId} {size n cap g : Nat} {xs : List Value} (h : w.ownsRow base e size (.slice (some ⟨g, 0, none⟩) n cap) n xs) {j : Nat} {u : Value} (hu : xs[j]? = some u) : w.cell? ⟨g, j, none⟩ = some u ∧ w.frozen? ⟨g, j, none⟩ = false := by
  have h1 := h.cells (g := g) rfl j u hu
  rw [Addr.add_lit, Nat.zero_add] at h1
  refine ⟨h1, ?_⟩
  obtain ⟨_, ⟨e, _⟩ | ⟨g', cap', cur, e, _, hh, _⟩⟩ := h
  · cases e
  · cases e; simp [World.frozen?, hh]
theorem grown_set3 (w : World) (p : Addr) (u : Value) : w.grownBy (w.setCell p u) (some p.block) :=
  ⟨rfl, rfl, rfl, by simp [World.setCell], fun k _ hk => Below.heap_setCell _ _ _ _ (fun e => hk (by rw [e]))⟩
/- one cell of an owned row is written -/
theorem Bxs.put {w : World} {base g c : Nat} {D : List Mi} (h : Bxs w base (.slice (some ⟨g, 0, none⟩) D.length c) D) (k : Nat) (hk : k < D.length) (x : Mi) (hm : x.m = D[k].m) (i : Nat) (hi : i < 9) (u : Value) (hu : iC x = (iC D[k]).set i u) :
    Bxs (w.setCell ⟨g, k * 9 + i, none⟩ u) base (.slice (some ⟨g, 0, none⟩) D.length c) (D.set k x) := by
  have hmem : ∀ y ∈ D.set k x, ∃ z ∈ D, z.m = y.m := by
    intro y hy
    rcases List.mem_or_eq_of_mem_set hy with hy | rfl
    · exact ⟨y, hy, rfl⟩
    · exact ⟨D[k], List.getElem_mem hk, hm.symm⟩
  refine ⟨?_, fun y hy => ?_, fun y hy => ?_⟩
  · have := (h.own.stored (k * 9 + i) u).1
    rw [flat_set iC_len D k hk i hi x u hu] at this
    rw [List.length_set]; exact this
  · obtain ⟨z, hz, e⟩ := hmem y hy
    have h1 := h.nt z hz
    have h2 := h.ap z hz
    rw [e] at h1 h2
    exact ⟨hops_kept h1.hp (grown_set3 w ⟨g, k * 9 + i, none⟩ u) h2, h1.hl, h1.hc, h1.hd⟩
  · obtain ⟨z, hz, e⟩ := hmem y hy
    have h2 := h.ap z hz
    rw [e] at h2
    exact h2
/- an item behind Due -/
def tkM (z : Int) (x : Mi) : Mi := if x.d ≤ z then ⟨x.q, z + Ox.del (Ox.more x.s), Ox.more x.s, x.m⟩ else x
theorem tkM_it (z : Int) (x : Mi) : (tkM z x).it = Ox.tick z x.it := by
  unfold tkM Ox.tick
  show (if x.d ≤ z then _ else _ : Mi).it = if x.d ≤ z then _ else _
  split <;> rfl
theorem its_tk (z : Int) (D : List Mi) : its (D.map (tkM z)) = (its D).map (Ox.tick z) := by
  unfold its
  rw [List.map_map, List.map_map]
  exact List.map_congr_left fun x _ => tkM_it z x
def part (z : Int) (D : List Mi) (k : Nat) : List Mi := (D.take k).map (tkM z) ++ D.drop k
theorem part_len (z : Int) (D : List Mi) (k : Nat) : (part z D k).length = D.length := by simp [part]; omega
theorem part_zero (z : Int) (D : List Mi) : part z D 0 = D := by simp [part]
theorem part_all (z : Int) (D : List Mi) (k : Nat) (h : D.length ≤ k) : part z D k = D.map (tkM z) := by
  unfold part
  rw [List.take_of_length_le h, List.drop_eq_nil_of_le h, List.append_nil]
theorem part_get (z : Int) (D : List Mi) (k : Nat) (h : k < D.length) : (part z D k)[k]'(by rw [part_len]; exact h) = D[k] := by
  unfold part
  rw [List.getElem_append_right (by simp; omega)]
  simp [Nat.min_eq_left (Nat.le_of_lt h)]
theorem part_succ (z : Int) (D : List Mi) (k : Nat) (h : k < D.length) : (part z D k).set k (tkM z D[k]) = part z D (k + 1) := by
  unfold part
  have hl : ((D.take k).map (tkM z)).length = k := by simp; omega
  rw [List.set_append_right _ _ (by omega), hl, Nat.sub_self, List.drop_eq_getElem_cons h, List.set_cons_zero, List.take_succ_eq_append_getElem h, List.map_append, List.append_assoc]
  rfl
theorem part_same (z : Int) (D : List Mi) (k : Nat) (h : k < D.length) (e : tkM z D[k] = D[k]) : part z D (k + 1) = part z D k := by
  rw [← part_succ z D k h, e]
  conv => lhs; rw [← part_get z D k h]
  exact List.set_getElem_self _
theorem del_del (n : Int) : Bo.delE n = Ox.del n := rfl

set_option maxHeartbeats 8000000 in
set_option maxRecDepth 100000 in
theorem sent_any (D : List Mi) (z : Int) (ad : Option Addr) (cap g : Nat) (w : World) (hD : ItsAt w ad D) (hn : D.length ≤ 1000) (hs : ∀ x ∈ D, x.m.x.L.length ≤ 1000 ∧ x.m.x.d.size ≤ 1000) (hsn : ∀ x ∈ its D, 0 ≤ x.s ∧ x.s ≤ 1000000) (hz : 0 ≤ z ∧ z ≤ 1000000000) (hb : w.cell? ⟨g, 0, none⟩ = some (.int .i64 z)) :
    Calls Try.prog 35 #[.slice ad D.length cap, .func (.func 34) #[] #[.pointer (some ⟨g, 0, none⟩)], .int .i64 z] w fun e w' => BxR ((its D).map (Ox.tick z)) w e w' := by
  have HP : Hid (∀ w', Gr w w' → Calls Try.prog 26 #[.slice ad D.length cap] w' fun e w2 => BxR (its D) w' e w2) := fun w' gr => copied_any D ad cap w' (hD.gr gr) hn hs
  have HC : Hid (∀ x w', Gr w w' → Calls Try.prog 34 #[Mi.v x, .pointer (some ⟨g, 0, none⟩)] w' fun e w2 => e = .returned (.bool (decide (x.d ≤ z))) ∧ Gr w' w2) := fun x w' gr => closeDue_any x z g w' (gr.keep hb)
  have HNx : Hid (∀ s w', Calls Try.prog 49 #[.int .i64 z, .int .i64 s] w' fun e w2 => e = .returned (.tuple #[.int .i64 (z + Ox.del s), .int .i64 0]) ∧ w2 = w') := fun s w' => by
    have := next_any z s w'
    have e1 : Bo.nextB z = true := by simp [Bo.nextB]; omega
    rw [show Bo.nextE z s = z + Ox.del s by unfold Bo.nextE; rw [if_pos e1]; rfl, show Bo.nextF z = 0 by unfold Bo.nextF; rw [if_pos e1]] at this
    exact this
  have HSn : Hid (∀ x ∈ its D, 0 ≤ x.s ∧ x.s ≤ 1000000) := hsn
  clear hD hs hsn hb
  go_enter Try.func35, Try.ntmps35
  go_wp2_with fail
  refine (HP.out _ ?_).mono ?_
  · exact (by repeat (first | exact Gr.refl _ | refine Gr.alloc ?_ | refine Gr.drew ?_ | refine Gr.trans ?_ (by assumption)))
  rintro e1 w1 ⟨a, c, E, rfl, hbx, hel, hg1⟩
  have HEl := Lib.hid hel
  have hEb : E.length ≤ 1000 := by have := congrArg List.length hel; simp [its] at this; omega
  have HB0 := Lib.hid (hbx.low (base' := w.heap.size) (by have := hg1.size; omega))
  have HG1 : Hid (Gr w w1) := (by repeat (first | exact Gr.refl _ | refine Gr.alloc ?_ | refine Gr.drew ?_ | refine Gr.trans ?_ (by assumption)))
  have HSe : Hid (∀ x ∈ E, 0 ≤ x.s ∧ x.s ≤ 1000000) := fun x hx => HSn.out x.it (by rw [← HEl.out]; exact List.mem_map.2 ⟨x, hx, rfl⟩)
  clear hbx hel hg1 HP HSn
  go_wp2
  go_loopw [14] (fun s14 wr => ∃ k : Nat, s14 = .int .i64 k ∧ k ≤ E.length ∧ Bxs wr w.heap.size (.slice a E.length c) (part z E k) ∧ Gr w wr) (fun s14 _ => E.length - (intOf s14).toNat)
  case atStart => exact ⟨0, rfl, Nat.zero_le _, by rw [part_zero]; exact HB0.out, HG1.out⟩
  case round =>
    clear HB0 HG1
    obtain ⟨k, rfl, hk, hbx, hg⟩ := hrel
    have HG := Lib.hid hg
    by_cases hlt : k < E.length
    · have hpl := part_len z E k
      have hbo := hbx.own
      rw [hpl] at hbo
      obtain ⟨gb, cap1, hv, hbg, hgl, _⟩ := own_form3 hbo (by omega)
      cases hv
      have HB := Lib.hid hbx
      have hcell : ∀ i u, i < 9 → (iC E[k])[i]? = some u → wr.cell? ⟨gb, k * 9 + i, none⟩ = some u ∧ wr.frozen? ⟨gb, k * 9 + i, none⟩ = false := by
        intro i u hi hu
        refine own_cell3 hbo ?_
        rw [flat_get iC_len (part z E k) k (by rw [hpl]; exact hlt) i hi, part_get z E k hlt]
        exact hu
      have HPut : Hid (∀ (wx : World) (x1 x2 : Mi), x1.m = x2.m → ∀ i u, i < 9 → iC x2 = (iC x1).set i u → Bxs wx w.heap.size (.slice (some ⟨gb, 0, none⟩) E.length c) ((part z E k).set k x1) → Bxs (wx.setCell ⟨gb, k * 9 + i, none⟩ u) w.heap.size (.slice (some ⟨gb, 0, none⟩) E.length c) ((part z E k).set k x2)) := by
        intro wx x1 x2 hm i u hi hu hbx
        have hlen : ((part z E k).set k x1).length = E.length := by simp [part_len]
        have := Bxs.put (D := (part z E k).set k x1) (g := gb) (c := c) (by rw [hlen]; exact hbx) k (by rw [hlen]; exact hlt) x2 (by simp [hm]) i hi u (by simpa using hu)
        rw [hlen, List.set_set] at this
        exact this
      have HB1 : Hid (Bxs wr w.heap.size (.slice (some ⟨gb, 0, none⟩) E.length c) ((part z E k).set k E[k])) := by
        have e : (part z E k).set k E[k] = part z E k := by
          conv => lhs; rw [← part_get z E k hlt]
          exact List.set_getElem_self _
        rw [e]; exact HB.out
      have HSu := Lib.hid (part_succ z E k hlt)
      have HSa : Hid (tkM z E[k] = E[k] → part z E (k + 1) = part z E k) := part_same z E k hlt
      have hki : (k : Int) < (E.length : Int) := by omega
      obtain ⟨r0, r1⟩ := HSe.out E[k] (List.getElem_mem hlt)
      have HX := Lib.hid (HC.out E[k])
      clear hg hbx hbo hpl HC
      generalize E[k] = x at *
      obtain ⟨d0, f0⟩ := hcell 0 _ (by omega) rfl
      obtain ⟨d1, f1⟩ := hcell 1 _ (by omega) rfl
      obtain ⟨d2, f2⟩ := hcell 2 _ (by omega) rfl
      obtain ⟨d3, f3⟩ := hcell 3 _ (by omega) rfl
      obtain ⟨d4, f4⟩ := hcell 4 _ (by omega) rfl
      obtain ⟨d5, f5⟩ := hcell 5 _ (by omega) rfl
      obtain ⟨d6, f6⟩ := hcell 6 _ (by omega) rfl
      obtain ⟨d7, f7⟩ := hcell 7 _ (by omega) rfl
      obtain ⟨d8, f8⟩ := hcell 8 _ (by omega) rfl
      rw [Nat.add_zero] at d0 f0
      clear hcell f0 f3 f4 f5 f6 f7 f8
      by_cases hle : x.d ≤ z
      · have HTk : Hid (tkM z x = ⟨x.q, z + Ox.del (Ox.more x.s), Ox.more x.s, x.m⟩) := by show _ = _; unfold tkM; rw [if_pos hle]
        rw [decide_eq_true hle] at HX
        rw [HTk.out] at HSu
        have HMo : Hid (Ox.more x.s = if x.s < 1000000 then x.s + 1 else x.s) := rfl
        clear hle HSa HTk HB
        obtain ⟨q, dd, s, ⟨⟨k0, r, n, L, dt, y⟩, ax, cx⟩⟩ := x
        dsimp only [Mn.v, Mi.v] at *
        obtain ⟨s', hs'⟩ : ∃ s', s' = Ox.more s := ⟨_, rfl⟩
        rw [← hs'] at HSu HMo
        have hN := HNx.out s'
        have hP1 := fun wx => HPut.out wx ⟨q, dd, s, ⟨⟨k0, r, n, L, dt, y⟩, ax, cx⟩⟩ ⟨q, dd, s', ⟨⟨k0, r, n, L, dt, y⟩, ax, cx⟩⟩ rfl 2 (.int .i64 s') (by omega) rfl
        have hP2 := fun wx => HPut.out wx ⟨q, dd, s', ⟨⟨k0, r, n, L, dt, y⟩, ax, cx⟩⟩ ⟨q, z + Ox.del s', s', ⟨⟨k0, r, n, L, dt, y⟩, ax, cx⟩⟩ rfl 1 (.int .i64 (z + Ox.del s')) (by omega) rfl
        have HP1 := Lib.hid hP1
        have HP2 := Lib.hid hP2
        have HN2 := Lib.hid hN
        clear hP1 hP2 hN HPut HNx hs'
        generalize Ox.del s' = ds at *
        go_wp2_with fail
        refine (HX.out _ (HG.out.trans (by repeat (first | exact Gr.refl _ | refine Gr.alloc ?_ | refine Gr.drew ?_ | refine Gr.trans ?_ (by assumption))))).mono ?_
        rintro e1 w1 ⟨rfl, hg1⟩
        have g3 : Gr wr w1 := (Gr.refl wr).alloc.trans hg1
        have B1 := (Cs.new wr [.int .i64 q, .int .i64 dd, .int .i64 s, .int .i64 k0, .int .i64 r, .int .i64 n, .slice ax L.length cx, .string dt, .int .i64 y] 48 _ rfl).gr hg1
        have b2 := B1.at_ 2 _ rfl
        have bl := B1.lt
        have d2 := g3.keep d2
        have d1 := g3.keep d1
        have f1 := g3.keepF hgl f1
        have f2 := g3.keepF hgl f2
        have hgl1 : gb < w1.heap.size := Nat.lt_of_lt_of_le hgl g3.size
        have hne : gb ≠ wr.heap.size := by omega
        have HB2 := Lib.hid (HP1.out w1 (HB1.out.gr g3))
        have HG2 := Lib.hid (HG.out.trans g3)
        clear HX hg1 g3 d0 d3 d4 d5 d6 d7 d8 B1 HB1
        have hmn : min (s + 1) 1000000 = s' := by
          have := HMo.out
          rw [this]
          split <;> omega
        clear HMo
        go_wp2_with fail
        refine (HN2.out _).mono ?_
        rintro e2 w2 ⟨rfl, hw2⟩; obtain rfl := hw2.symm
        go_wp2
        go_roundw
        case rel => exact ⟨k + 1, by go_num, by omega, by rw [← HSu.out]; exact HP2.out _ HB2.out, (HG2.out.set _ (by simp; omega) _).set _ (by simp; omega) _⟩
        case measure => simp [intOf]; omega
      · have HTk : Hid (tkM z x = x) := by show _ = _; unfold tkM; rw [if_neg hle]
        rw [decide_eq_false hle] at HX
        have HSe2 := Lib.hid (HSa.out HTk.out)
        clear hle HSa HTk HSu HPut HB1
        obtain ⟨q, dd, s, ⟨⟨k0, r, n, L, dt, y⟩, ax, cx⟩⟩ := x
        dsimp only [Mn.v, Mi.v] at *
        go_wp2_with fail
        refine (HX.out _ (HG.out.trans (by repeat (first | exact Gr.refl _ | refine Gr.alloc ?_ | refine Gr.drew ?_ | refine Gr.trans ?_ (by assumption))))).mono ?_
        rintro e1 w1 ⟨rfl, hg1⟩
        have g3 : Gr wr w1 := (Gr.refl wr).alloc.trans hg1
        have HB2 := Lib.hid (HB.out.gr g3)
        have HG2 := Lib.hid (HG.out.trans g3)
        clear HX hg1 g3 d0 d1 d2 d3 d4 d5 d6 d7 d8 f1 f2 HB
        go_wp2
        go_roundw
        case rel => exact ⟨k + 1, by go_num, by omega, by rw [HSe2.out]; exact HB2.out, HG2.out⟩
        case measure => simp [intOf]; omega
    · have hge : ¬ ((k : Int) < (E.length : Int)) := by omega
      have HL : Hid (its (part z E k) = (its D).map (Ox.tick z)) := by
        show _ = _
        rw [part_all z E k (by omega), its_tk, HEl.out]
      have HB := Lib.hid hbx
      have HPl := Lib.hid (part_len z E k)
      clear hbx hg
      go_wp2
      go_ret
      exact ⟨a, c, part z E k, by rw [HPl.out]; rfl, by rw [HPl.out]; exact HB.out, HL.out, HG.out⟩
end Go.Proofs.Ytilkfgpcibdikaa
