
/- wheel: what its calls answer, in one form each. -/
import Derived.Test.YtmgiiofjlgchfaaDoorWhO
namespace Go.Proofs.YtmgiiofjlgchfaaDoor
open Go.RowKit Go.Maps Go.Sort
open Wh (Tm Sl ks hasK atK del ins put dig whl Inv tlt Up trn upto past)

def setE (t : Nat) (L : List Tm) (k : ByteArray) (a : Int) : Int :=
  if k.size < 1 ∨ 100 < k.size ∨ 1000000000 < a then 2 else if a ≤ (t : Int) then 110 else if hasK L k = false ∧ 200 ≤ L.length then 3 else 0
def setL (t : Nat) (L : List Tm) (k : ByteArray) (a : Int) : List Tm := if setE t L k a = 0 then ins (del L k) (k, a.toNat) else L
theorem set_all {b m t : Nat} {L : List Tm} {S : Sl} {V : Vl} {w : World} (h : WAt w b m t L S V) (hi : Inv t L S) (k : ByteArray) (a : Int) :
    Calls Tryd.prog 11 #[ptr b, .string k, .int .i64 a] w fun e w' => e = .returned (.int .i64 (setE t L k a)) ∧ DrA w w' b m t (setL t L k a) V := by
  unfold setL
  by_cases h1 : k.size < 1 ∨ 100 < k.size ∨ 1000000000 < a
  · have e : setE t L k a = 2 := by unfold setE; rw [if_pos h1]
    rw [e, if_neg (by omega)]
    refine (set_arg h k a (by omega)).mono ?_
    rintro e w' ⟨rfl, rfl⟩
    exact ⟨rfl, S, V, h, hi, Tn.refl _ _ _ _⟩
  · by_cases h2 : a ≤ (t : Int)
    · have e : setE t L k a = 110 := by unfold setE; rw [if_neg h1, if_pos h2]
      rw [e, if_neg (by omega)]
      refine (set_time h k a (by omega) (by omega) h2 hi.ok.time).mono ?_
      rintro e w' ⟨rfl, rfl⟩
      exact ⟨rfl, S, V, h, hi, Tn.refl _ _ _ _⟩
    · by_cases h3 : hasK L k = false ∧ 200 ≤ L.length
      · have e : setE t L k a = 3 := by unfold setE; rw [if_neg h1, if_neg h2, if_pos h3]
        rw [e, if_neg (by omega)]
        refine (set_big h hi k a (by omega) (by omega) (by omega) (by omega) h3.1 h3.2).mono ?_
        rintro e w' ⟨rfl, hg⟩
        exact ⟨rfl, S, V, h.gr hg, hi, Tn.gr hg⟩
      · have e : setE t L k a = 0 := by unfold setE; rw [if_neg h1, if_neg h2, if_neg h3]
        rw [e, if_pos rfl]
        obtain ⟨n, rfl⟩ : ∃ n : Nat, a = (n : Int) := ⟨a.toNat, by omega⟩
        rw [Int.toNat_natCast]
        refine set_ok h hi k (by omega) (by omega) (by omega) (by omega) ?_
        cases hh : hasK L k with
        | true => exact Or.inl rfl
        | false => exact Or.inr (Nat.lt_of_not_le (fun hc => h3 ⟨hh, hc⟩))
def TkR (w w' : World) (b m x : Nat) (L : List Tm) (V : Vl) (e : Ending) : Prop := ∃ v S' V', e = .returned v ∧ SkI w b m L V w' x S' V' v
theorem tick_all {b m t E : Nat} {L : List Tm} {S : Sl} {V : Vl} {w : World} (h : WAt w b m t L S V) (hi : Inv t L S) (hT : Tb w) (ho : ¬ own b m V 1) (hE : E = min (t + 1) 1000000000) :
    Calls Tryd.prog 17 #[ptr b] w fun e w' => TkR w w' b m E L V e := by
  by_cases ht : t = 1000000000
  · refine (tick_end h ht).mono ?_
    rintro e w' ⟨rfl, rfl⟩
    obtain rfl : E = t := by omega
    exact ⟨_, S, V, rfl, SkI.start h hi⟩
  · have := hi.ok.time
    obtain rfl : E = t + 1 := by omega
    refine (tick_any h hi (by omega) hT ho).mono ?_
    rintro e w' ⟨v, S', V', rfl, q2, q3, q4, q5, q6⟩
    obtain ⟨e1, e2⟩ := Wh.tick_upto hi.ok
    rw [e1] at q2
    rw [e2] at q3 q4
    exact ⟨v, S', V', rfl, q3, q4, q2, q5, q6⟩
/- Skip, whatever is asked -/
def skE (t : Nat) (n : Int) : Nat := if n < 0 ∨ 100000 < n then t else min (t + n.toNat) 1000000000
def skF (n : Int) : Int := if n < 0 ∨ 100000 < n then 2 else 0
def SaR (w w' : World) (b m x : Nat) (L : List Tm) (V : Vl) (f : Int) (e : Ending) : Prop :=
  ∃ v S' V', e = .returned (.tuple #[v, .int .i64 f]) ∧ SkI w b m L V w' x S' V' v
theorem skip_all {b m t : Nat} {L : List Tm} {S : Sl} {V : Vl} {w : World} (h : WAt w b m t L S V) (hi : Inv t L S) (n : Int) (hT : Tb w) (ho : ¬ own b m V 1) :
    Calls Tryd.prog 19 #[ptr b, .int .i64 n] w fun e w' => SaR w w' b m (skE t n) L V (skF n) e := by
  unfold skE skF
  by_cases hn : n < 0 ∨ 100000 < n
  · rw [if_pos hn, if_pos hn]
    refine (skip_arg h n hn).mono ?_
    rintro e w' ⟨rfl, rfl⟩
    exact ⟨_, S, V, rfl, SkI.start h hi⟩
  · rw [if_neg hn, if_neg hn]
    obtain ⟨k, rfl⟩ : ∃ k : Nat, n = (k : Int) := ⟨n.toNat, by omega⟩
    rw [Int.toNat_natCast]
    exact skip_any h hi (by omega) hT ho rfl
theorem skE_le {t : Nat} {n : Int} (ht : t ≤ 1000000000) : t ≤ skE t n ∧ skE t n ≤ 1000000000 := by
  unfold skE; split <;> omega
/- a wheel of the call's own: what was there is as it was -/
theorem Gr.tn {a w w' : World} {b m : Nat} {V V' : Vl} (g : Gr a w) (k : Tn w w' b m V V') (ho : ∀ j, own b m V j → a.heap.size ≤ j) : Gr a w' := by
  have := g.size
  exact ⟨⟨k.os.trans g.below.os, k.tape.trans g.below.tape, k.output.trans g.below.output, Nat.le_trans g.size k.size, fun j hj => by rw [k.block j (by omega) (fun hc => by have := ho j hc; omega), g.below.block j hj]⟩⟩
theorem own_new (b m j : Nat) (h : own b m V0 j) : j = b ∨ j = m := by
  rcases h with h | h | ⟨_, _, _, _, h⟩
  · exact Or.inl h
  · exact Or.inr h
  · cases h
/- a wheel, its table, all of its blocks from a place on -/
structure Wl (a w : World) (b m t : Nat) (L : List Tm) (S : Sl) (V : Vl) : Prop where
  wa : WAt w b m t L S V
  iv : Inv t L S
  gr : Gr a w
  low : ∀ j, own b m V j → a.heap.size ≤ j
theorem Wl.tab {a w : World} {b m t : Nat} {L : List Tm} {S : Sl} {V : Vl} (h : Wl a w b m t L S V) (hT : Tb a) : Tb w ∧ ¬ own b m V 1 :=
  ⟨hT.gr h.gr, fun hc => by have := h.low 1 hc; have := hT.lt; omega⟩
theorem Wl.tn {a w w' : World} {b m t t' : Nat} {L L' : List Tm} {S S' : Sl} {V V' : Vl} (h : Wl a w b m t L S V) (k : Tn w w' b m V V') (hw : WAt w' b m t' L' S' V') (hi : Inv t' L' S') : Wl a w' b m t' L' S' V' := by
  refine ⟨hw, hi, h.gr.tn k h.low, fun j hj => ?_⟩
  rcases k.new j hj with h1 | h1
  · exact h.low j h1
  · exact Nat.le_trans h.gr.size h1
theorem Wl.grow {a w w' : World} {b m t : Nat} {L : List Tm} {S : Sl} {V : Vl} (h : Wl a w b m t L S V) (g : Gr w w') : Wl a w' b m t L S V := ⟨h.wa.gr g, h.iv, h.gr.trans g, h.low⟩
theorem Wl.sk {a w w' : World} {b m t x : Nat} {L : List Tm} {S S' : Sl} {V V' : Vl} {v : Value} (h : Wl a w b m t L S V) (k : SkI w b m L V w' x S' V' v) : Wl a w' b m x (past L x) S' V' := h.tn k.tn k.wa k.iv
theorem Wl.new {a w' : World} {t : Nat} (ht : t ≤ 1000000000) (hw : WAt w' (a.heap.size + 1) a.heap.size t [] S0 V0) (hg : Gr a w') : Wl a w' (a.heap.size + 1) a.heap.size t [] S0 V0 :=
  ⟨hw, Wh.Inv.new ht, hg, fun j hj => by rcases own_new _ _ _ hj with h | h <;> omega⟩
end Go.Proofs.YtmgiiofjlgchfaaDoor
