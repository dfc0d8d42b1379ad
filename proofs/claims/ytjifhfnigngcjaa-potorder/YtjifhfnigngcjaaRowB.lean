/- Rows of acts in memory. -/
import Derived.Test.YtjifhfnigngcjaaBoxA
import Derived.Test.YtjifhfnigngcjaaPotS
import Derived.WalkSmall
import Derived.Deep.RegionHeld3
namespace Go.Proofs.Ytjifhfnigngcjaa
open Go.RowKit

def actC (x : Four) : List Value := [.int .i64 x.kind, .bool x.out, .int .i64 x.amt, .int .i64 x.wh]
def actV (L : List Four) : List Value := L.flatMap actC
theorem actV_len (L : List Four) : (actV L).length = L.length * 4 := by
  induction L with
  | nil => rfl
  | cons h t ih => simp [actV, actC] at ih ⊢; omega
theorem actV_app (L M : List Four) : actV (L ++ M) = actV L ++ actV M := by simp [actV]
theorem actV_get (L : List Four) : ∀ j (h : j < L.length), (actV L)[j * 4]? = some (.int .i64 L[j].kind) ∧ (actV L)[j * 4 + 1]? = some (.bool L[j].out) ∧ (actV L)[j * 4 + 2]? = some (.int .i64 L[j].amt) ∧ (actV L)[j * 4 + 3]? = some (.int .i64 L[j].wh) := by
  induction L with
  | nil => intro j h; simp at h
  | cons x t ih =>
    intro j h
    have e : actV (x :: t) = .int .i64 x.kind :: .bool x.out :: .int .i64 x.amt :: .int .i64 x.wh :: actV t := rfl
    rw [e]
    cases j with
    | zero => exact ⟨rfl, rfl, rfl, rfl⟩
    | succ j =>
      obtain ⟨h1, h2, h3, h4⟩ := ih j (by simpa using h)
      rw [show (j + 1) * 4 = j * 4 + 1 + 1 + 1 + 1 by omega]
      refine ⟨by simpa using h1, ?_, ?_, ?_⟩
      · rw [show j * 4 + 1 + 1 + 1 + 1 + 1 = (j * 4 + 1) + 1 + 1 + 1 + 1 by omega]; simpa using h2
      · rw [show j * 4 + 1 + 1 + 1 + 1 + 2 = (j * 4 + 2) + 1 + 1 + 1 + 1 by omega]; simpa using h3
      · rw [show j * 4 + 1 + 1 + 1 + 1 + 3 = (j * 4 + 3) + 1 + 1 + 1 + 1 by omega]; simpa using h4
theorem actV_one (L : List Four) : ∀ u ∈ actV L, u.oneCell' = true := by
  intro u hu
  simp only [actV, List.mem_flatMap] at hu
  obtain ⟨h, _, hu⟩ := hu
  simp [actC] at hu
  rcases hu with rfl | rfl | rfl | rfl <;> rfl

/- a row of acts in memory, its address whatever where there is none -/
def ActsAt (w : World) (ad : Option Addr) (L : List Four) : Prop :=
  ∀ j (h : j < L.length), ∃ b off, ad = some ⟨b, off, none⟩ ∧ b < w.heap.size ∧ w.cell? ⟨b, off + j * 4, none⟩ = some (.int .i64 L[j].kind) ∧ w.cell? ⟨b, off + j * 4 + 1, none⟩ = some (.bool L[j].out) ∧ w.cell? ⟨b, off + j * 4 + 2, none⟩ = some (.int .i64 L[j].amt) ∧ w.cell? ⟨b, off + j * 4 + 3, none⟩ = some (.int .i64 L[j].wh)
theorem ActsAt.gr {w w' : World} {ad : Option Addr} {L : List Four} (h : ActsAt w ad L) (g : Gr w w') : ActsAt w' ad L := by
  intro j hj
  obtain ⟨b, off, e, hb, h1, h2, h3, h4⟩ := h j hj
  exact ⟨b, off, e, Nat.lt_of_lt_of_le hb g.size, g.keep h1, g.keep h2, g.keep h3, g.keep h4⟩
theorem ActsAt.nil {w : World} {ad : Option Addr} : ActsAt w ad [] := fun j h => absurd h (by simp)
theorem ActsAt.take {w : World} {ad : Option Addr} {L : List Four} (h : ActsAt w ad L) (k : Nat) : ActsAt w ad (L.take k) := by
  intro j hj
  have hj' : j < L.length := by rw [List.length_take] at hj; omega
  obtain ⟨b, off, e, hb, h1, h2, h3, h4⟩ := h j hj'
  refine ⟨b, off, e, hb, ?_, ?_, ?_, ?_⟩ <;> rw [List.getElem_take] <;> assumption
theorem ActsAt.drop {w : World} {b off : Nat} {L : List Four} (h : ActsAt w (some ⟨b, off, none⟩) L) (k : Nat) : ActsAt w (some ⟨b, off + k * 4, none⟩) (L.drop k) := by
  intro j hj
  rw [List.length_drop] at hj
  obtain ⟨b', off', e, hb, h1, h2, h3, h4⟩ := h (k + j) (by omega)
  cases e
  rw [show off + (k + j) * 4 = off + k * 4 + j * 4 by omega] at h1 h2 h3 h4
  refine ⟨b, off + k * 4, rfl, hb, ?_, ?_, ?_, ?_⟩ <;> rw [List.getElem_drop] <;> assumption
theorem ActsAt.news {w : World} {b off : Nat} {L : List Four} (h : ActsAt w (some ⟨b, off, none⟩) L) : ∀ j u, (actV L)[j]? = some u → w.cell? ((⟨b, off, none⟩ : Addr).add j) = some u := by
  intro j u hu
  have hj : j < L.length * 4 := by
    rw [← actV_len]
    exact (List.getElem?_eq_some_iff.1 hu).1
  have hj2 : j / 4 < L.length := by omega
  obtain ⟨b', off', e, _, h1, h2, h3, h4⟩ := h (j / 4) hj2
  simp at e
  obtain ⟨rfl, rfl⟩ := e
  obtain ⟨g1, g2, g3, g4⟩ := actV_get L (j / 4) hj2
  rw [Addr.add_lit]
  have hm : j % 4 = 0 ∨ j % 4 = 1 ∨ j % 4 = 2 ∨ j % 4 = 3 := by omega
  rcases hm with hm | hm | hm | hm
  · have e : j = j / 4 * 4 := by omega
    rw [e] at hu ⊢
    rw [g1] at hu
    rw [← hu]; exact h1
  · have e : j = j / 4 * 4 + 1 := by omega
    rw [e] at hu ⊢
    rw [g2] at hu
    rw [← hu, ← Nat.add_assoc]; exact h2
  · have e : j = j / 4 * 4 + 2 := by omega
    rw [e] at hu ⊢
    rw [g3] at hu
    rw [← hu, ← Nat.add_assoc]; exact h3
  · have e : j = j / 4 * 4 + 3 := by omega
    rw [e] at hu ⊢
    rw [g4] at hu
    rw [← hu, ← Nat.add_assoc]; exact h4
theorem ActsAt.setFar {w : World} {ad : Option Addr} {L : List Four} (h : ActsAt w ad L) (p : Addr) (v : Value) (hp : ∀ a, ad = some a → p.block ≠ a.block) : ActsAt (w.setCell p v) ad L := by
  intro j hj
  obtain ⟨b, off, e, hb, h1, h2, h3, h4⟩ := h j hj
  have hne : p.block ≠ b := hp _ e
  refine ⟨b, off, e, by simpa using hb, ?_, ?_, ?_, ?_⟩ <;> rw [World.cell?_setCell_far _ _ _ _ (by simpa using hne)] <;> assumption
/- a row of acts that the call owns -/
theorem own_acts {base : Nat} {v : Value} {L : List Four} {w : World} (h : w.ownsRow base 45 4 v L.length (actV L)) : ∃ ad cap, v = .slice ad L.length cap ∧ L.length ≤ cap ∧ ActsAt w ad L ∧ ∀ a, ad = some a → base ≤ a.block := by
  have hcell := fun g (hg : v.ownBlock = some g) => h.cells hg
  have hlt := h.lt
  obtain ⟨_, ⟨rfl, h0⟩ | ⟨g, cap, cur, rfl, hx⟩⟩ := h
  · have : L = [] := List.length_eq_zero_iff.1 h0
    subst this
    exact ⟨none, 0, rfl, by simp, ActsAt.nil, fun a e => by cases e⟩
  · refine ⟨some ⟨g, 0, none⟩, cap, rfl, hx.2.2.1, ?_, fun a e => by cases e; exact (hlt g rfl).1⟩
    intro j hj
    obtain ⟨g1, g2, g3, g4⟩ := actV_get L j hj
    have c1 := hcell g rfl _ _ g1
    have c2 := hcell g rfl _ _ g2
    have c3 := hcell g rfl _ _ g3
    have c4 := hcell g rfl _ _ g4
    rw [Addr.add_lit] at c1 c2 c3 c4
    rw [← Nat.add_assoc] at c2 c3 c4
    exact ⟨g, 0, rfl, (hlt g rfl).2, c1, c2, c3, c4⟩
theorem own_lit0 (w : World) (base : Nat) (t : TypeId) (g : Nat) (hg : g = w.heap.size) (hb : base ≤ w.heap.size) : (w.alloc (.cells #[] t)).ownsRow base t 4 (.slice (some ⟨g, 0, none⟩) 0 0) 0 [] := by
  subst hg; exact World.ownsRow_lit w #[] 0 hb (by unfold maxLen; omega) rfl
theorem acts_lit1 (w : World) (x : Four) (t : TypeId) : ActsAt (w.alloc (.cells #[.int .i64 x.kind, .bool x.out, .int .i64 x.amt, .int .i64 x.wh] t)) (some ⟨w.heap.size, 0, none⟩) [x] := by
  intro j hj
  match j, hj with
  | 0, _ => exact ⟨_, _, rfl, by simp, by simp, by simp, by simp, by simp⟩
theorem infoAct : (Try.prog.info? 45).map (fun i => (i.zero, i.size, i.bytes)) = some (some (.agg #[.int .i64 0, .bool false, .int .i64 0, .int .i64 0]), 4, 32) := by kernel_rfl

def highAd (ad : Option Addr) (cap c : Nat) : Option Addr := if cap = c then ad else ad.map (·.add (c * 4))
theorem slice_low (ad : Option Addr) (n cap c : Nat) (hc : c ≤ n) (hn : n ≤ cap) (W : World) :
    (Instr.sliceAt 41 (.slice ad n cap) none (some (.int .i64 c)) none).run Try.prog W = .ok (.slice ad c cap) W := by
  have h1 : (c : Int) ≤ cap := by omega
  go_simp
theorem slice_high (ad : Option Addr) (n cap c : Nat) (hc : c ≤ n) (W : World) :
    (Instr.sliceAt 41 (.slice ad n cap) (some (.int .i64 c)) none none).run Try.prog W = .ok (.slice (highAd ad cap c) (n - c) (cap - c)) W := by
  have h1 : (c : Int) ≤ n := by omega
  go_simp
  unfold highAd
  rfl
theorem ActsAt.high {w : World} {ad : Option Addr} {l : List Four} (h : ActsAt w ad l) (cap c : Nat) (hl : l.length ≤ cap) : ActsAt w (highAd ad cap c) (l.drop c) := by
  by_cases hc : c < l.length
  · obtain ⟨b, off, rfl, _⟩ := h 0 (by omega)
    unfold highAd
    rw [if_neg (by omega)]
    rw [Option.map_some, Addr.add_lit]
    exact h.drop c
  · rw [List.drop_eq_nil_of_le (by omega)]; exact ActsAt.nil
end Go.Proofs.Ytjifhfnigngcjaa
