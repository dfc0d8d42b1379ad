
/- A wheel and the document's wheel side by side: what each call leaves behind. -/
import Derived.Test.YtmgiiofjlgchfaaDoorWpD
import Derived.Test.YtmgiiofjlgchfaaDoorWpE
import Derived.Test.YtmgiiofjlgchfaaDoorWDuA
namespace Go.Proofs.YtmgiiofjlgchfaaDoor
open Go.RowKit Go.Maps Go.Sort
open Wh (Tm Sl ks hasK atK del ins put dig whl Inv tlt Up trn upto past)

/- a box beside them: a text and a number -/
abbrev Bxq := Option (Nat × ByteArray × Int)
structure Ply (a w : World) (b m t : Nat) (L : List Tm) (S : Sl) (V : Vl) (r t2 : Nat) (ad : Option Addr) (cap : Nat) (L2 : List Tm) (q : Bxq) : Prop where
  wl : Wl a w b m t L S V
  rf : RfAt w r t2 ad cap L2
  ok : Wh.Ok t2 L2
  ro : ¬ own b m V r
  ao : ∀ p, ad = some p → ¬ own b m V p.block
  rl : a.heap.size ≤ r
  bx : ∀ x, q = some x → w.cell? ⟨x.1, 1, none⟩ = some (.string x.2.1) ∧ w.cell? ⟨x.1, 2, none⟩ = some (.int .i64 x.2.2) ∧ ¬ own b m V x.1 ∧ x.1 ≠ r
def Pl (a w : World) (b m t : Nat) (L : List Tm) (r t2 : Nat) (L2 : List Tm) (q : Bxq) : Prop := ∃ S V ad cap, Ply a w b m t L S V r t2 ad cap L2 q
variable {a w w' : World} {b m t : Nat} {L : List Tm} {S : Sl} {V : Vl} {r t2 : Nat} {ad : Option Addr} {cap : Nat} {L2 : List Tm} {q : Bxq}
theorem Ply.tn (h : Ply a w b m t L S V r t2 ad cap L2 q) {t' : Nat} {L' : List Tm} {S' : Sl} {V' : Vl} (k : Tn w w' b m V V') (hw : WAt w' b m t' L' S' V') (hi : Inv t' L' S') : Ply a w' b m t' L' S' V' r t2 ad cap L2 q := by
  have off : ∀ j, j < w.heap.size → ¬ own b m V j → ¬ own b m V' j := fun j hj ho hc => by
    rcases k.new j hc with h1 | h1
    · exact ho h1
    · omega
  refine ⟨h.wl.tn k hw hi, h.rf.tn k h.ro h.ao, h.ok, off r h.rf.lt h.ro, fun p e => off _ (h.rf.off p e).2 (h.ao p e), h.rl, fun x e => ?_⟩
  obtain ⟨h1, h2, h3, h4⟩ := h.bx x e
  have hl : x.1 < w.heap.size := World.block_lt_of_cell? w _ h1
  have hb := k.block x.1 hl h3
  exact ⟨(World.cell?_of_block (a := ⟨x.1, 1, none⟩) hb).trans h1, (World.cell?_of_block (a := ⟨x.1, 2, none⟩) hb).trans h2, off _ hl h3, h4⟩
theorem Ply.rf' (h : Ply a w b m t L S V r t2 ad cap L2 q) {t' : Nat} {L' : List Tm} {o : Option Addr} (ho : o = none ∨ o = ad) (k : RfR w w' r t' L' o) (hk : Wh.Ok t' L') : Pl a w' b m t L r t' L' q := by
  obtain ⟨ad', cap', h1, h2, h3⟩ := k
  refine ⟨S, V, ad', cap', h.wl.grownOff h2 (fun j hj => by cases hj; exact ⟨h.ro, h.rl⟩), h1, hk, h.ro, fun p e hc => ?_, h.rl, fun x e => ?_⟩
  · rcases h3 p e with ⟨a0, e1, e2⟩ | h3
    · rcases ho with rfl | rfl
      · cases e1
      · rw [← e2] at hc; exact h.ao a0 e1 hc
    · have := h.wl.wa.own_lt hc; omega
  · obtain ⟨q1, q2, q3, q4⟩ := h.bx x e
    exact ⟨h2.cell q1 (fun e => q4 (by injection e)), h2.cell q2 (fun e => q4 (by injection e)), q3, q4⟩
theorem Pl.gr (h : Pl a w b m t L r t2 L2 q) (g : Gr w w') : Pl a w' b m t L r t2 L2 q := by
  obtain ⟨S, V, ad, cap, h⟩ := h
  exact ⟨S, V, ad, cap, h.tn (Tn.gr g) (h.wl.wa.gr g) h.wl.iv⟩
theorem Pl.gra (h : Pl a w b m t L r t2 L2 q) : Gr a w := by
  obtain ⟨S, V, ad, cap, h⟩ := h
  exact h.wl.gr
theorem Pl.ok2 (h : Pl a w b m t L r t2 L2 q) : Wh.Ok t L := by
  obtain ⟨S, V, ad, cap, h⟩ := h
  exact h.wl.iv.ok
theorem Pl.time (h : Pl a w b m t L r t2 L2 q) : w.cell? ⟨r, 0, none⟩ = some (.int .i64 (t2 : Int)) := by
  obtain ⟨S, V, ad, cap, h⟩ := h
  exact h.rf.now
theorem Pl.box {x : Nat × ByteArray × Int} (h : Pl a w b m t L r t2 L2 (some x)) : w.cell? ⟨x.1, 1, none⟩ = some (.string x.2.1) ∧ w.cell? ⟨x.1, 2, none⟩ = some (.int .i64 x.2.2) := by
  obtain ⟨S, V, ad, cap, h⟩ := h
  exact ⟨(h.bx x rfl).1, (h.bx x rfl).2.1⟩
theorem Pl.forget (h : Pl a w b m t L r t2 L2 q) : Pl a w b m t L r t2 L2 none := by
  obtain ⟨S, V, ad, cap, h⟩ := h
  exact ⟨S, V, ad, cap, h.wl, h.rf, h.ok, h.ro, h.ao, h.rl, fun x e => by cases e⟩
theorem Pl.open (h : Pl a w b m t L r t2 L2 none) (g : Gr w w') {g0 : Nat} {s : ByteArray} {n : Int} (hg : g0 = w.heap.size) (h1 : w'.cell? ⟨g0, 1, none⟩ = some (.string s)) (h2 : w'.cell? ⟨g0, 2, none⟩ = some (.int .i64 n)) : Pl a w' b m t L r t2 L2 (some (g0, s, n)) := by
  obtain ⟨S, V, ad, cap, h⟩ := h
  have h' := h.tn (Tn.gr g) (h.wl.wa.gr g) h.wl.iv
  refine ⟨S, V, ad, cap, h'.wl, h'.rf, h'.ok, h'.ro, h'.ao, h'.rl, fun x e => ?_⟩
  cases e
  exact ⟨h1, h2, fun hc => by have := h.wl.wa.own_lt hc; omega, fun e => by have := h.rf.lt; simp only at e; omega⟩
theorem Pl.new (ht : t ≤ 1000000000) {w1 w2 : World} (hw : WAt w1 (a.heap.size + 1) a.heap.size t [] S0 V0) (hg : Gr a w1) (hr : RfAt w2 w1.heap.size t none 0 []) (hg2 : Gr w1 w2) : Pl a w2 (a.heap.size + 1) a.heap.size t [] w1.heap.size t [] none := by
  have h1 := (Wl.new ht hw hg).grow hg2
  exact ⟨S0, V0, none, 0, h1, hr, Wh.Ok.nil ht, fun hc => by have := hw.own_lt hc; omega, fun p e => by (cases e), hg.size, fun x e => by cases e⟩
theorem setL_ok (hk : Wh.Ok t L) (k : ByteArray) (x : Int) : Wh.Ok t (setL t L k x) := by
  unfold setL
  split
  · rename_i e
    unfold setE at e
    split at e
    · cases e
    · rename_i c1
      split at e
      · cases e
      · rename_i c2
        split at e
        · cases e
        · rename_i c3
          refine (hk.del k).ins (Wh.del_has L k) ?_ ?_ ?_ ?_ ?_
          · show t < x.toNat; omega
          · show x.toNat ≤ _; omega
          · show 1 ≤ k.size; omega
          · show k.size ≤ 100; omega
          · cases hh : hasK L k with
            | true => have := Wh.del_len hk.nd hh; have := hk.few; omega
            | false =>
              rw [Wh.del_none hh]
              exact Nat.lt_of_not_le (fun hc => c3 ⟨hh, hc⟩)
  · exact hk
theorem pl_set (h : Pl a w b m t L r t2 L2 q) (k : ByteArray) (x : Int) :
    Calls Tryd.prog 11 #[ptr b, .string k, .int .i64 x] w fun e w' => e = .returned (.int .i64 (setE t L k x)) ∧ Pl a w' b m t (setL t L k x) r t2 L2 q := by
  obtain ⟨S, V, ad, cap, h⟩ := h
  refine (set_all h.wl.wa h.wl.iv k x).mono ?_
  rintro e w2 ⟨rfl, S2, V2, q1, q2, q3⟩
  exact ⟨rfl, S2, V2, ad, cap, h.tn q3 q1 q2⟩
theorem pl_rset (h : Pl a w b m t L r t2 L2 q) (k : ByteArray) (x : Int) :
    Calls Tryd.prog 13 #[ptr r, .string k, .int .i64 x] w fun e w' => e = .returned (.int .i64 (setE t2 L2 k x)) ∧ Pl a w' b m t L r t2 (setL t2 L2 k x) q := by
  obtain ⟨S, V, ad, cap, h⟩ := h
  have hok := setL_ok h.ok k x
  unfold setL at hok ⊢
  have stay : Pl a w b m t L r t2 L2 q := ⟨S, V, ad, cap, h⟩
  by_cases h1 : k.size < 1 ∨ 100 < k.size ∨ 1000000000 < x
  · have e : setE t2 L2 k x = 2 := by unfold setE; rw [if_pos h1]
    rw [e, if_neg (by omega)]
    refine (rset_arg k x h1).mono ?_
    rintro e w' ⟨rfl, rfl⟩
    exact ⟨rfl, stay⟩
  · by_cases h2 : x ≤ (t2 : Int)
    · have e : setE t2 L2 k x = 110 := by unfold setE; rw [if_neg h1, if_pos h2]
      rw [e, if_neg (by omega)]
      refine (rset_time h.rf k x (by omega) (by omega) (by omega) h2).mono ?_
      rintro e w' ⟨rfl, rfl⟩
      exact ⟨rfl, stay⟩
    · by_cases h3 : hasK L2 k = false ∧ 200 ≤ L2.length
      · have e : setE t2 L2 k x = 3 := by unfold setE; rw [if_neg h1, if_neg h2, if_pos h3]
        rw [e, if_neg (by omega)]
        refine (rset_big h.rf k x (by omega) (by omega) (by omega) h2 h3.1 h3.2).mono ?_
        rintro e w' ⟨rfl, rfl⟩
        exact ⟨rfl, stay⟩
      · have e : setE t2 L2 k x = 0 := by unfold setE; rw [if_neg h1, if_neg h2, if_neg h3]
        rw [e, if_pos rfl] at hok ⊢
        obtain ⟨n, rfl⟩ : ∃ n : Nat, x = (n : Int) := ⟨x.toNat, by omega⟩
        rw [Int.toNat_natCast] at hok ⊢
        refine (rset_ok h.rf h.ok.few k (by omega) (by omega) (by omega) (by omega) ?_).mono ?_
        · cases hh : hasK L2 k with
          | true => exact Or.inl rfl
          | false => exact Or.inr (Nat.lt_of_not_le (fun hc => h3 ⟨hh, hc⟩))
        · rintro e w' ⟨rfl, hr⟩
          exact ⟨rfl, h.rf' (Or.inl rfl) hr hok⟩
theorem pl_drop (h : Pl a w b m t L r t2 L2 q) (k : ByteArray) (hk : k.size ≤ 9223372036854775807) :
    Calls Tryd.prog 14 #[ptr b, .string k] w fun e w' => e = .returned (.bool (hasK L k)) ∧ Pl a w' b m t (del L k) r t2 L2 q := by
  obtain ⟨S, V, ad, cap, h⟩ := h
  refine (drop_any h.wl.wa h.wl.iv k hk).mono ?_
  rintro e w2 ⟨rfl, S2, V2, q1, q2, q3⟩
  exact ⟨rfl, S2, V2, ad, cap, h.tn q3 q1 q2⟩
theorem pl_rdrop (h : Pl a w b m t L r t2 L2 q) (k : ByteArray) :
    Calls Tryd.prog 15 #[ptr r, .string k] w fun e w' => e = .returned (.bool (hasK L2 k)) ∧ Pl a w' b m t L r t2 (del L2 k) q := by
  obtain ⟨S, V, ad, cap, h⟩ := h
  refine (rdrop_any h.rf h.ok.few k).mono ?_
  rintro e w2 ⟨rfl, hr⟩
  exact ⟨rfl, h.rf' (Or.inl rfl) hr (h.ok.del k)⟩
/- a row that was answered, off the document's wheel -/
def Ans (w : World) (r : Nat) (L : List Tm) (v : Value) : Prop := ∃ x c, v = .slice x L.length c ∧ RowAt tmf w x L ∧ ∀ p, x = some p → p.block ≠ r
theorem Ply.sk (h : Ply a w b m t L S V r t2 ad cap L2 q) {x : Nat} {S' : Sl} {V' : Vl} {v : Value} (k : SkI w b m L V w' x S' V' v) : Ans w' r (upto L x) v ∧ Pl a w' b m x (past L x) r t2 L2 q := by
  refine ⟨?_, S', V', ad, cap, h.tn k.tn k.wa k.iv⟩
  obtain ⟨y, c, rfl, _, _, q4, _⟩ := tm_row (own_low k.tr (Nat.zero_le _))
  refine ⟨y, c, rfl, q4, fun p e hc => ?_⟩
  have h1 := (own_ad k.tr p e).1
  have := h.rf.lt
  omega
theorem pl_tick (hT : Tb a) (h : Pl a w b m t L r t2 L2 q) {x : Nat} (hx : x = min (t + 1) 1000000000) :
    Calls Tryd.prog 17 #[ptr b] w fun e w' => ∃ v, e = .returned v ∧ Ans w' r (upto L x) v ∧ Pl a w' b m x (past L x) r t2 L2 q := by
  obtain ⟨S, V, ad, cap, h⟩ := h
  refine (tick_all h.wl.wa h.wl.iv (h.wl.tab hT).1 (h.wl.tab hT).2 hx).mono ?_
  rintro e w2 ⟨v, S', V', rfl, k⟩
  exact ⟨v, rfl, h.sk k⟩
theorem pl_skip (hT : Tb a) (h : Pl a w b m t L r t2 L2 q) (n : Int) :
    Calls Tryd.prog 19 #[ptr b, .int .i64 n] w fun e w' => ∃ v, e = .returned (.tuple #[v, .int .i64 (skF n)]) ∧ Ans w' r (upto L (skE t n)) v ∧ Pl a w' b m (skE t n) (past L (skE t n)) r t2 L2 q := by
  obtain ⟨S, V, ad, cap, h⟩ := h
  refine (skip_all h.wl.wa h.wl.iv n (h.wl.tab hT).1 (h.wl.tab hT).2).mono ?_
  rintro e w2 ⟨v, S', V', rfl, k⟩
  exact ⟨v, rfl, h.sk k⟩
theorem Wh.Ok.past (hk : Wh.Ok t L) {x : Nat} (h2 : x ≤ 1000000000) : Wh.Ok x (Wh.past L x) := by
  have hs : (Wh.past L x).Sublist L := List.filter_sublist
  have h1 := hk.sub hs
  exact ⟨h1.up, h1.nd, fun y hy => ⟨by simpa using (List.mem_filter.1 hy).2, (h1.ahead y hy).2⟩, h1.size, h1.few, h2⟩
/- both rows are the same -/
def Both (w : World) (L : List Tm) (u v : Value) : Prop := ∃ x c y d, u = .slice x L.length c ∧ v = .slice y L.length d ∧ RowAt tmf w x L ∧ RowAt tmf w y L
theorem Ply.rc (h : Ply a w b m t L S V r t2 ad cap L2 q) {x : Nat} {v u : Value} (hx2 : x ≤ 1000000000) (k : RfC w w' r x L2 ad v) (hu : Ans w r (upto L2 x) u) : Both w' (upto L2 x) u v ∧ Pl a w' b m t L r x (past L2 x) q := by
  obtain ⟨⟨y, d, rfl, h1⟩, h2⟩ := k
  refine ⟨?_, h.rf' (Or.inr rfl) h2 (h.ok.past hx2)⟩
  obtain ⟨y', c, rfl, q1, q2⟩ := hu
  obtain ⟨_, _, _, g, _⟩ := h2
  refine ⟨y', c, y, d, rfl, rfl, ?_, h1⟩
  intro j z hz
  obtain ⟨b0, off, e, hb, hc⟩ := q1 j z hz
  exact ⟨b0, off, e, Nat.lt_of_lt_of_le hb g.size, g.cell hc (fun e2 => q2 _ e (by injection e2))⟩
theorem pl_rtick (h : Pl a w b m t L r t2 L2 q) {x : Nat} (hx : x = min (t2 + 1) 1000000000) {u : Value} (hu : Ans w r (upto L2 x) u) :
    Calls Tryd.prog 18 #[ptr r] w fun e w' => ∃ v, e = .returned v ∧ Both w' (upto L2 x) u v ∧ Pl a w' b m t L r x (past L2 x) q := by
  obtain ⟨S, V, ad, cap, h⟩ := h
  have ht := h.ok.time
  by_cases h9 : t2 = 1000000000
  · refine (rtick_end h.rf h9).mono ?_
    rintro e w' ⟨rfl, rfl⟩
    obtain rfl : x = t2 := by omega
    exact ⟨_, rfl, h.rc ht (RfC.stay h.rf h.ok) hu⟩
  · obtain rfl : x = t2 + 1 := by omega
    refine (rtick_any h.rf h.ok (by omega) rfl).mono ?_
    rintro e w' ⟨v, rfl, k⟩
    exact ⟨v, rfl, h.rc (by omega) k hu⟩
theorem pl_rskip (h : Pl a w b m t L r t2 L2 q) (n : Int) {u : Value} (hu : Ans w r (upto L2 (skE t2 n)) u) :
    Calls Tryd.prog 20 #[ptr r, .int .i64 n] w fun e w' => ∃ v, e = .returned (.tuple #[v, .int .i64 (skF n)]) ∧ Both w' (upto L2 (skE t2 n)) u v ∧ Pl a w' b m t L r (skE t2 n) (past L2 (skE t2 n)) q := by
  obtain ⟨S, V, ad, cap, h⟩ := h
  have ht := h.ok.time
  have hE := skE_le (t := t2) (n := n) ht
  by_cases hn : n < 0 ∨ 100000 < n
  · have e1 : skE t2 n = t2 := by unfold skE; rw [if_pos hn]
    have e2 : skF n = 2 := by unfold skF; rw [if_pos hn]
    rw [e1] at hu ⊢
    rw [e2]
    refine (rskip_arg n hn).mono ?_
    rintro e w' ⟨rfl, rfl⟩
    exact ⟨_, rfl, h.rc ht (RfC.stay h.rf h.ok) hu⟩
  · obtain ⟨k, rfl⟩ : ∃ k : Nat, n = (k : Int) := ⟨n.toNat, by omega⟩
    have e1 : skE t2 (k : Int) = min (t2 + k) 1000000000 := by unfold skE; rw [if_neg hn, Int.toNat_natCast]
    have e2 : skF (k : Int) = 0 := by unfold skF; rw [if_neg hn]
    rw [e2]
    refine (rskip_any h.rf h.ok (by omega) e1).mono ?_
    rintro e w' ⟨v, rfl, k⟩
    exact ⟨v, rfl, h.rc hE.2 k hu⟩
theorem pl_at (h : Pl a w b m t L r t2 L2 q) (k : ByteArray) (hk : k.size ≤ 9223372036854775807) :
    Calls Tryd.prog 21 #[ptr b, .string k] w fun e w' => e = .returned (.tuple #[.int .i64 (atK L k : Int), .bool (hasK L k)]) ∧ w' = w := by
  obtain ⟨S, V, ad, cap, h⟩ := h
  exact at_any h.wl.wa h.wl.iv.ok.nd k hk
theorem pl_rat (h : Pl a w b m t L r t2 L2 q) (k : ByteArray) :
    Calls Tryd.prog 22 #[ptr r, .string k] w fun e w' => e = .returned (.tuple #[.int .i64 (atK L2 k : Int), .bool (hasK L2 k)]) ∧ w' = w := by
  obtain ⟨S, V, ad, cap, h⟩ := h
  exact rat_any h.rf k
theorem pl_now (h : Pl a w b m t L r t2 L2 q) :
    Calls Tryd.prog 23 #[ptr b] w fun e w' => e = .returned (.int .i64 (t : Int)) ∧ w' = w := by
  obtain ⟨S, V, ad, cap, h⟩ := h
  exact now_any h.wl.wa
theorem pl_all (h : Pl a w b m t L r t2 L2 q) :
    Calls Tryd.prog 24 #[ptr b] w fun e w' => ∃ x y, e = .returned (.slice x L.length y) ∧ RowAt tmf w' x L ∧ Gr w w' := by
  obtain ⟨S, V, ad, cap, h⟩ := h
  refine (all_any h.wl.wa h.wl.iv).mono ?_
  rintro e w' ⟨v, rfl, q1, q2⟩
  obtain ⟨x, y, rfl, _, _, q3, _⟩ := tm_row (own_low q1 (Nat.zero_le _))
  exact ⟨x, y, rfl, q3, q2⟩
theorem Pl.list (h : Pl a w b m t L r t2 L2 q) : ∃ ad cap, w.cell? ⟨r, 1, none⟩ = some (.slice ad L2.length cap) ∧ RowAt tmf w ad L2 := by
  obtain ⟨S, V, ad, cap, h⟩ := h
  exact ⟨ad, cap, h.rf.lst, h.rf.row⟩
end Go.Proofs.YtmgiiofjlgchfaaDoor
