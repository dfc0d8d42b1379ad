
/- wheel: come, what holds at each key. -/
import Derived.Test.YtmgiiofjlgchfaaDoorWhH
namespace Go.Proofs.YtmgiiofjlgchfaaDoor
open Go.RowKit Go.Maps Go.Sort
open Wh (Tm Sl ks hasK atK del ins put dig whl Inv tlt Up low slotK fL fT fS trn)

/- the table of trailing zeros -/
def Tb (w : World) : Prop := TabAt 1 Lib.deBruijn64tab w
theorem Tb.keep {w w' : World} (h : Tb w) (e : w'.heap[1]? = w.heap[1]?) : Tb w' := fun j hj => by
  rw [World.cell?_of_block (w := w) e]; exact h j hj
theorem Tb.lt {w : World} (h : Tb w) : 1 < w.heap.size := World.block_lt_of_cell? w _ (h 0 (by decide))
theorem Tb.gr {w w' : World} (h : Tb w) (g : Gr w w') : Tb w' := h.keep (g.below.block 1 h.lt)
theorem Tb.tn {w w' : World} {b m : Nat} {V V' : Vl} (h : Tb w) (k : Tn w w' b m V V') (ho : ¬ own b m V 1) : Tb w' ∧ ¬ own b m V' 1 := by
  refine ⟨h.keep (k.block 1 h.lt ho), fun hn => ?_⟩
  rcases k.new 1 hn with h1 | h1
  · exact ho h1
  · have := h.lt; omega

theorem Tn.grown_new {a w w' : World} {b m : Nat} {V V1 : Vl} {r : Option Nat} (h : Tn a w b m V V1) (g : w.grownBy w' r) (hr : ∀ j, r = some j → a.heap.size ≤ j) : Tn a w' b m V V1 := by
  have hs := h.size
  exact ⟨g.os.trans h.os, g.tape.trans h.tape, g.output.trans h.output, Nat.le_trans h.size g.size, fun j hj hn => by rw [g.block j (by omega) (fun e => by have := hr j e.symm; omega), h.block j hj hn], h.new⟩
def kf (k : ByteArray) : List Value := [.string k]
structure CmI (w : World) (b m u : Nat) (L : List Tm) (S : Sl) (V : Vl) (K : List ByteArray) (ad : Option Addr) (wr : World) (K1 K2 : List ByteArray) (V1 : Vl) (v6 : Value) : Prop where
  eq : K = K1 ++ K2
  wa : WAt wr b m u (fL L u K1) (fS L S u K1) V1
  tr : wr.ownsRow w.heap.size 61 2 v6 (fT L u K1).length ((fT L u K1).flatMap tmf)
  tn : Tn w wr b m V V1
  off : ∀ j, v6.ownBlock = some j → ¬ own b m V1 j
  row : RowAt kf wr ad K
  koff : ∀ a, ad = some a → ¬ own b m V1 a.block
theorem row_strs {w : World} {v : Value} {l : List ByteArray} (h : w.ownsRow 0 9 1 v l.length (strs l)) : ∃ ad cap, v = .slice ad l.length cap ∧ l.length ≤ cap ∧ RowAt kf w ad l ∧ (∀ a, ad = some a → v.ownBlock = some a.block) := by
  have e : strs l = l.flatMap kf := by
    induction l with
    | nil => rfl
    | cons x t ih =>
      rw [List.flatMap_cons]
      show Value.string x :: strs t = Value.string x :: t.flatMap kf
      congr 1
      clear h ih
      induction t with
      | nil => rfl
      | cons y t ih => rw [List.flatMap_cons]; show Value.string y :: strs t = Value.string y :: t.flatMap kf; rw [ih]
  rw [e] at h
  obtain ⟨ad, cap, rfl, h1, _, h2, _, _⟩ := own_row h
  exact ⟨ad, cap, rfl, h1, h2, fun a e => by rw [e]; rfl⟩
/- at the start -/
theorem CmI.start {w : World} {b m u : Nat} {L : List Tm} {S : Sl} {V : Vl} (h : WAt w b m u L S V) {ad : Option Addr} {cap : Nat} (hg : low u < 6) (hv : V (low u) (dig u (low u)) = .slice ad (slotK S u).length cap) (hr : RowAt kf w ad (slotK S u)) :
    CmI w b m u L S V (slotK S u) ad (w.setCell ⟨b, 2 + low u * 32 + dig u (low u), none⟩ (.slice none 0 0)) [] (slotK S u) (setV V (low u) (dig u (low u)) (.slice none 0 0)) (.slice none 0 0) := by
  have hd := Wh.dig_lt u (low u)
  have hs := h.setSlot hg hd (w' := w) (v := .slice none 0 0) (l := []) ⟨rfl, rfl, rfl, Nat.le_refl _, fun _ _ _ => rfl⟩ (World.ownsRow_nil _ _ _ _) (fun j hj => by cases hj)
  have hko : ∀ a, ad = some a → ¬ own b m (setV V (low u) (dig u (low u)) (.slice none 0 0)) a.block := by
    rintro a rfl (e | e | ⟨g, d, h1, h2, h3⟩)
    · exact (h.off _ _ hg hd).1 (by rw [hv, ← e]; rfl)
    · exact (h.off _ _ hg hd).2 (by rw [hv, ← e]; rfl)
    · by_cases hh : g = low u ∧ d = dig u (low u)
      · obtain ⟨rfl, rfl⟩ := hh
        rw [setV_same] at h3; cases h3
      · rw [setV_other _ _ hh] at h3
        exact hh (h.apart g d _ _ a.block h1 h2 hg hd h3 (by rw [hv]; rfl))
  refine ⟨rfl, ?_, World.ownsRow_nil _ _ _ _, hs.2, (fun j hj => by cases hj), ?_, hko⟩
  · rw [Wh.fL_nil, Wh.fS_nil]; exact hs.1
  · intro j v hj
    obtain ⟨x, off, rfl, hb, h1⟩ := hr j v hj
    refine ⟨x, off, rfl, by simpa using hb, ?_⟩
    rw [World.cell?_setCell_far _ _ _ _ (by
      intro e
      simp only at e
      exact hko _ rfl (Or.inl e.symm))]
    exact h1
theorem CmI.lt {w : World} {b m u : Nat} {L : List Tm} {S : Sl} {V : Vl} {K : List ByteArray} {ad : Option Addr} {wr : World} {K1 K2 : List ByteArray} {V1 : Vl} {v6 : Value} (h : CmI w b m u L S V K ad wr K1 K2 V1 v6) {a : Addr} (e : ad = some a) (hK : K ≠ []) : a.block < wr.heap.size := by
  subst e
  obtain ⟨x, t, rfl⟩ : ∃ x t, K = x :: t := by
    cases K with
    | nil => exact absurd rfl hK
    | cons x t => exact ⟨x, t, rfl⟩
  obtain ⟨b', off, e1, hb, _⟩ := h.row 0 (.string x) rfl
  cases e1
  exact hb
/- one more key, in whatever world: the wheel has been turned -/
theorem CmI.next {w : World} {b m u : Nat} {L : List Tm} {S : Sl} {V : Vl} {K : List ByteArray} {ad : Option Addr} {wr w' : World} {K1 K2 : List ByteArray} {k : ByteArray} {V1 V2 : Vl} {v6 : Value} (h : CmI w b m u L S V K ad wr K1 (k :: K2) V1 v6) (hw : WAt w' b m u (fL L u (K1 ++ [k])) (fS L S u (K1 ++ [k])) V2) (hT : fT L u (K1 ++ [k]) = fT L u K1) (ht : Tn wr w' b m V1 V2) :
    CmI w b m u L S V K ad w' (K1 ++ [k]) K2 V2 v6 := by
  have hK : K ≠ [] := by rw [h.eq]; simp
  refine ⟨by rw [h.eq]; simp, hw, ?_, h.tn.trans ht, fun j hj ho => ?_, ht.row h.row h.koff, fun a e ho => ?_⟩
  · rw [hT]
    exact row_keep h.tr (fun j hj => ht.block j (h.tr.lt j hj).2 (h.off j hj))
  · rcases ht.new j ho with h1 | h1
    · exact h.off j hj h1
    · have := (h.tr.lt j hj).2; omega
  · rcases ht.new _ ho with h1 | h1
    · exact h.koff a e h1
    · have := h.lt e hK; omega
/- the told row has grown -/
theorem CmI.told {w : World} {b m u : Nat} {L : List Tm} {S : Sl} {V : Vl} {K : List ByteArray} {ad : Option Addr} {wr w1 w2 : World} {K1 K2 : List ByteArray} {k : ByteArray} {V1 : Vl} {v6 v' : Value} (h : CmI w b m u L S V K ad wr K1 (k :: K2) V1 v6)
    (hw : WAt w1 b m u (fL L u (K1 ++ [k])) (fS L S u (K1 ++ [k])) V1) (ht : Tn wr w1 b m V1 V1) (hg : w1.grownBy w2 v6.ownBlock) (ho : w2.ownsRow w.heap.size 61 2 v' (fT L u (K1 ++ [k])).length ((fT L u (K1 ++ [k])).flatMap tmf)) (hl : v'.ownBlock = v6.ownBlock ∨ v'.ownBlock = some w1.heap.size)
    (hn : ∀ a, ad = some a → v6.ownBlock ≠ some a.block) : CmI w b m u L S V K ad w2 (K1 ++ [k]) K2 V1 v' := by
  have hK : K ≠ [] := by rw [h.eq]; simp
  have hoff1 : ∀ j, v6.ownBlock = some j → ¬ own b m V1 j := h.off
  have hs : w1.heap.size ≤ w2.heap.size := hg.size
  have hr1 : RowAt kf w1 ad K := ht.row h.row h.koff
  have hwn : w.heap.size ≤ w1.heap.size := Nat.le_trans h.tn.size ht.size
  have hbw : ∀ j, v6.ownBlock = some j → w.heap.size ≤ j := fun j hj => (h.tr.lt j hj).1
  refine ⟨by rw [h.eq]; simp, hw.grown hg hoff1, ho, (h.tn.trans ht).grown_new hg hbw, fun j hj hc => ?_, ?_, h.koff⟩
  · rcases hl with e | e
    · exact h.off j (by rw [← e]; exact hj) hc
    · rw [e] at hj
      injection hj with hj
      have := hw.own_lt hc
      omega
  · intro j v hj
    obtain ⟨x, off, rfl, hb, h1⟩ := hr1 j v hj
    refine ⟨x, off, rfl, by omega, ?_⟩
    rw [World.cell?_of_block (w := w1) (hg.block x hb (fun e => hn _ rfl e.symm))]
    exact h1
/- append at a step, and where the row lies behind it -/
theorem step_append_at {P : Program} {w : World} {ops : Array Oper} {o : Oper} {a : Act} {K : Act → World → Prop} {Q : Exit → Act → World → Prop} {E : Prop} (hgd : o.guard = none) (s x : Operand) (t : TypeId)
    (ho : o.op = .call { callee := .builtin .append, args := #[s, x], argTypes := #[t, t] })
    (base : Nat) (e : TypeId) (i : TypeInfo) (z : Value) (size bytes : Nat) (ht : P.underlying t = some (.slice e)) (hi : P.info? e = some i) (hz : i.zero = some z)
    (hsize : i.size = size) (hby : i.bytes = bytes) (hzs : z.cells.size = size) (hsz : 0 < size)
    (v : Value) (n : Nat) (xs : List Value) (hs : a.eval s = v) (hown : w.ownsRow base e size v n xs)
    (ad : Addr) (m c : Nat) (news : List Value) (hx : a.eval x = .slice (some ad) m c) (hl : news.length = m * size) (hnews : ∀ j u, news[j]? = some u → w.cell? (ad.add j) = some u) (h1 : ∀ u ∈ news, u.oneCell' = true)
    (h63 : n + m ≤ maxLen) (hbytes : (n + m) * bytes ≤ 140737488355328) (hbase : base ≤ w.heap.size)
    (h : ∀ v' w', w'.ownsRow base e size v' (n + m) (xs ++ news) → w.grownBy w' v.ownBlock → (v'.ownBlock = v.ownBlock ∨ v'.ownBlock = some w.heap.size) → K (a.put o.dst v') w') :
    if Region.wanted o (yielded ops a.tmps) = true then Oper.wp P o a w K Q else E := by
  have hw : Region.wanted o (yielded ops a.tmps) = true := by simp [Region.wanted, hgd]
  rw [if_pos hw]
  obtain ⟨v', w', hr, h2, h3, _, h5⟩ := run_append_own_at (P := P) w base t o.type e i z size bytes ht hi hz hsize hby hzs hsz v n xs hown ad m c news hl hnews h1 h63 hbytes hbase
  unfold Oper.wp execOp
  simp only [ho, resolve, invoke, builtin, Sem.run_bind, Sem.run_pure, Result.andThen_ok, List.map_toArray, List.map_cons, List.map_nil, hs, hx, hr]
  exact h v' w' h2 h3 h5
end Go.Proofs.YtmgiiofjlgchfaaDoor
