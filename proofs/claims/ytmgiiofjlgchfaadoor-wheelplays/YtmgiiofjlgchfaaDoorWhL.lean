
/- wheel: Skip, what holds at each turn. -/
import Derived.Test.YtmgiiofjlgchfaaDoorWhK
import Derived.Laws.AppendOwnNone
namespace Go.Proofs.YtmgiiofjlgchfaaDoor
open Go.RowKit Go.Maps Go.Sort
open Wh (Tm Sl ks hasK atK del ins put dig whl Inv tlt Up trn upto past)

structure SkI (w : World) (b m : Nat) (L : List Tm) (V : Vl) (wr : World) (x : Nat) (S1 : Sl) (V1 : Vl) (v6 : Value) : Prop where
  wa : WAt wr b m x (past L x) S1 V1
  iv : Inv x (past L x) S1
  tr : wr.ownsRow w.heap.size 61 2 v6 (upto L x).length ((upto L x).flatMap tmf)
  tn : Tn w wr b m V V1
  off : ∀ j, v6.ownBlock = some j → ¬ own b m V1 j
def nowOf (o : Option Value) : Nat := match o with
  | some (.int _ z) => z.toNat
  | _ => 0
theorem SkI.now {w : World} {b m : Nat} {L : List Tm} {V : Vl} {wr : World} {x : Nat} {S1 : Sl} {V1 : Vl} {v6 : Value} (h : SkI w b m L V wr x S1 V1 v6) : nowOf (wr.cell? ⟨b, 0, none⟩) = x := by
  rw [h.wa.now]; simp [nowOf]
theorem SkI.start {w : World} {b m t : Nat} {L : List Tm} {S : Sl} {V : Vl} (h : WAt w b m t L S V) (hi : Inv t L S) : SkI w b m L V w t S V (.slice none 0 0) := by
  refine ⟨by rw [Wh.past_now hi.ok]; exact h, by rw [Wh.past_now hi.ok]; exact hi, ?_, Tn.refl _ _ _ _, fun j hj => by cases hj⟩
  rw [Wh.upto_now hi.ok]
  exact World.ownsRow_nil _ _ _ _
/- the time is set to y: come may be called -/
theorem SkI.come {w : World} {b m : Nat} {L : List Tm} {V : Vl} {wr : World} {x : Nat} {S1 : Sl} {V1 : Vl} {v6 : Value} (h : SkI w b m L V wr x S1 V1 v6) (y : Nat) (hT : Tb w) (ho : ¬ own b m V 1) :
    WAt (wr.setCell ⟨b, 0, none⟩ (.int .i64 (y : Int))) b m y (past L x) S1 V1 ∧ Tb (wr.setCell ⟨b, 0, none⟩ (.int .i64 (y : Int))) := by
  have h3 := hT.tn h.tn ho
  exact ⟨h.wa.setNow y, (h3.1.tn (Tn.set (V := V1) _ _ (Or.inl rfl)) h3.2).1⟩
/- behind come: what is appended to -/
structure SkJ (w : World) (b m : Nat) (L : List Tm) (V : Vl) (w2 : World) (x y : Nat) (S2 : Sl) (V2 : Vl) (v6 v2 : Value) : Prop where
  wa : WAt w2 b m y (past L y) S2 V2
  iv : Inv y (past L y) S2
  tr : w2.ownsRow w.heap.size 61 2 v6 (upto L x).length ((upto L x).flatMap tmf)
  tn : Tn w w2 b m V V2
  off : ∀ j, v6.ownBlock = some j → ¬ own b m V2 j
  row : w2.ownsRow 0 61 2 v2 (Wh.due (past L x) y).length ((Wh.due (past L x) y).flatMap tmf)
  up : upto L y = upto L x ++ Wh.due (past L x) y
theorem SkI.behind {w : World} {b m : Nat} {L : List Tm} {V : Vl} {wr w2 : World} {x y : Nat} {S1 : Sl} {V1 : Vl} {v6 : Value} {e : Ending} (h : SkI w b m L V wr x S1 V1 v6) (hu : Up L) (h1 : x < y) (h2 : ∀ z ∈ past L x, y ≤ trn x z.2) (hc : ComR (wr.setCell ⟨b, 0, none⟩ (.int .i64 (y : Int))) w2 b m y (past L x) V1 e) :
    ∃ v2 S2 V2, e = .returned v2 ∧ SkJ w b m L V w2 x y S2 V2 v6 v2 := by
  obtain ⟨v2, S2, V2, rfl, q2, q3, q4, q5, q6⟩ := hc
  have hno : ∀ z ∈ L, x < z.2 → y ≤ z.2 := fun z hz hx => Nat.le_trans (h2 z (List.mem_filter.2 ⟨hz, by simpa using hx⟩)) (Wh.trn_le _ _)
  have hp := Wh.past_step (L := L) h1 hno
  rw [← hp] at q3 q4
  have ht2 : Tn wr w2 b m V1 V2 := (Tn.set (V := V1) ⟨b, 0, none⟩ (.int .i64 (y : Int)) (Or.inl rfl)).trans q5
  refine ⟨v2, S2, V2, rfl, q3, q4, row_keep h.tr (fun j hj => ht2.block j (h.tr.lt j hj).2 (h.off j hj)), h.tn.trans ht2, fun j hj hc => ?_, own_low q2 (Nat.zero_le _), Wh.upto_step hu h1 hno⟩
  rcases ht2.new j hc with h3 | h3
  · exact h.off j hj h3
  · have := (h.tr.lt j hj).2; omega
theorem SkJ.next {w : World} {b m : Nat} {L : List Tm} {V : Vl} {w2 w3 : World} {x y : Nat} {S2 : Sl} {V2 : Vl} {v6 v2 v' : Value} (h : SkJ w b m L V w2 x y S2 V2 v6 v2) (ho : w3.ownsRow w.heap.size 61 2 v' ((upto L x).length + (Wh.due (past L x) y).length) ((upto L x).flatMap tmf ++ (Wh.due (past L x) y).flatMap tmf)) (hg : w2.grownBy w3 v6.ownBlock) (hl : v'.ownBlock = v6.ownBlock ∨ v'.ownBlock = some w2.heap.size) :
    SkI w b m L V w3 y S2 V2 v' := by
  refine ⟨h.wa.grown hg h.off, h.iv, ?_, h.tn.grown_new hg (fun j hj => (h.tr.lt j hj).1), fun j hj hc => ?_⟩
  · rw [h.up, List.flatMap_append, List.length_append]; exact ho
  · rcases hl with e | e
    · exact h.off j (by rw [← e]; exact hj) hc
    · rw [e] at hj
      injection hj with hj
      have := h.wa.own_lt hc
      omega
theorem SkJ.none {w : World} {b m : Nat} {L : List Tm} {V : Vl} {w2 : World} {x y : Nat} {S2 : Sl} {V2 : Vl} {v6 v2 : Value} (h : SkJ w b m L V w2 x y S2 V2 v6 v2) (h0 : Wh.due (past L x) y = []) :
    SkI w b m L V w2 y S2 V2 v6 := by
  refine ⟨h.wa, h.iv, ?_, h.tn, h.off⟩
  rw [h.up, h0, List.append_nil]; exact h.tr
end Go.Proofs.YtmgiiofjlgchfaaDoor
