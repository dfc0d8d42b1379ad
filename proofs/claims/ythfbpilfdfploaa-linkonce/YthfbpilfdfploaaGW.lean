/- Parts of these proofs, laid together. -/
import Derived.Test.YthfbpilfdfploaaGU
namespace Go.Proofs.Ythfbpilfdfploaa
open Go.RowKit

theorem flat_take {α : Type} {f : α → List Value} {c : Nat} (hc : ∀ x, (f x).length = c) (L : List α) (i : Nat) (hi : i ≤ L.length) : (L.take i).flatMap f = (L.flatMap f).take (i * c) := by
  have h := congrArg (List.flatMap f) (List.take_append_drop i L)
  rw [List.flatMap_append] at h
  rw [← h, List.take_left' (by rw [flat_len hc, List.length_take, Nat.min_eq_left hi])]
theorem flat_drop {α : Type} {f : α → List Value} {c : Nat} (hc : ∀ x, (f x).length = c) (L : List α) (i : Nat) (hi : i ≤ L.length) : (L.drop i).flatMap f = (L.flatMap f).drop (i * c) := by
  have h := congrArg (List.flatMap f) (List.take_append_drop i L)
  rw [List.flatMap_append] at h
  rw [← h, List.drop_left' (by rw [flat_len hc, List.length_take, Nat.min_eq_left hi])]
theorem row_take {α : Type} {f : α → List Value} {c : Nat} (hc : ∀ x, (f x).length = c) {w : World} {ad : Option Addr} {L : List α} (h : RowAt f w ad L) (p : Nat) (hp : p ≤ L.length) : RowAt f w ad (L.take p) := by
  intro j u hu
  rw [flat_take hc L p hp, List.getElem?_take] at hu
  split at hu
  · exact h j u hu
  · cases hu
theorem row_drop {α : Type} {f : α → List Value} {c : Nat} (hc : ∀ x, (f x).length = c) {w : World} {a : Addr} {L : List α} (h : RowAt f w (some a) L) (p : Nat) (hp : p ≤ L.length) : RowAt f w (some (a.add (p * c))) (L.drop p) := by
  intro j u hu
  rw [flat_drop hc L p hp, List.getElem?_drop] at hu
  obtain ⟨b, off, e, hb, h1⟩ := h _ u hu
  cases e
  exact ⟨b, off + p * c, by rw [Addr.add_lit], hb, by rw [Nat.add_assoc]; exact h1⟩
def highF (ad : Option Addr) (cap c : Nat) : Option Addr := if cap = c then ad else ad.map (·.add (c * 12))
theorem slice_lowF (ad : Option Addr) (n cap c : Nat) (hc : c ≤ n) (hn : n ≤ cap) (W : World) :
    (Instr.sliceAt 48 (.slice ad n cap) none (some (.int .i64 c)) none).run Try.prog W = .ok (.slice ad c cap) W := by
  have h1 : (c : Int) ≤ cap := by omega
  go_simp
theorem slice_highF (ad : Option Addr) (n cap c : Nat) (hc : c ≤ n) (W : World) :
    (Instr.sliceAt 48 (.slice ad n cap) (some (.int .i64 c)) none none).run Try.prog W = .ok (.slice (highF ad cap c) (n - c) (cap - c)) W := by
  have h1 : (c : Int) ≤ n := by omega
  go_simp
  unfold highF
  rfl
theorem row_highF {w : World} {ad : Option Addr} {l : List Mf} (h : RowAt fC w ad l) (cap c : Nat) (hl : l.length ≤ cap) : RowAt fC w (highF ad cap c) (l.drop c) := by
  by_cases hc : c < l.length
  · obtain ⟨b, off, rfl, _⟩ := FrsRow.at h 0 (by omega)
    unfold highF
    rw [if_neg (by omega), Option.map_some]
    exact row_drop fC_len h c (by omega)
  · rw [List.drop_eq_nil_of_le (by omega)]; exact RowAt.nil
theorem highF_some {ad : Option Addr} {cap c : Nat} (h : ad ≠ none) : highF ad cap c ≠ none := by
  unfold highF
  split
  · exact h
  · cases ad with
    | none => exact absurd rfl h
    | some a => simp
theorem own_lit12 (w : World) (base : Nat) (t : TypeId) (g : Nat) (hg : g = w.heap.size) (hb : base ≤ w.heap.size) : (w.alloc (.cells #[] t)).ownsRow base t 12 (.slice (some ⟨g, 0, none⟩) 0 0) 0 [] := by
  subst hg; exact World.ownsRow_lit w #[] 0 hb (by unfold maxLen; omega) rfl
theorem own_sliceF {w : World} {base : Nat} {e : TypeId} {size n : Nat} {v : Value} {xs : List Value} (h : w.ownsRow base e size v n xs) : ∃ a c, v = .slice a n c := by
  obtain ⟨_, ⟨rfl, h0⟩ | ⟨g, cap, cur, rfl, _⟩⟩ := h
  · exact ⟨none, 0, by rw [h0]⟩
  · exact ⟨_, _, rfl⟩
theorem fxs_cap {Z : Nat → Prop} {w : World} {base : Nat} {a : Option Addr} {c : Nat} {D : List Mf} (h : Fxs Z w base (.slice a D.length c) D) : D.length ≤ c := by
  obtain ⟨_, _, e, hc, _⟩ := h.at
  cases e
  exact hc
theorem highF_none {ad : Option Addr} {cap c : Nat} (h : ad = none → cap = 0) (e : highF ad cap c = none) : cap - c = 0 := by
  cases ad with
  | none => have := h rfl; omega
  | some a => exact absurd e (highF_some (by simp))
theorem own_litD (w : World) (base : Nat) (t : TypeId) (g : Nat) (hg : g = w.heap.size) (hb : base ≤ w.heap.size) : ((w.alloc (.cells #[] t)).drew).ownsRow base t 12 (.slice (some ⟨g, 0, none⟩) 0 0) 0 [] := own_gr3 (own_lit12 w base t g hg hb) (Gr.refl _).drew
theorem wrap_j {j n : Nat} (h : j < n) (hn : n ≤ 400) : wrap64 ((j : Int) + 1) = (j : Int) + 1 ∧ IntKind.i64.wrap ((j : Int) + 1) = (j : Int) + 1 :=
  have h1 : -1000000000000 ≤ (j : Int) + 1 := by omega
  have h2 : (j : Int) + 1 ≤ 1000000000000 := by omega
  ⟨wrap_small h1 h2, wrap_small2 h1 h2⟩
/- frames of those on their way are laid into a row of their own -/
theorem pa_fresh {Z : Nat → Prop} {w0 w w' : World} {gp : Nat} {g : Nat → Nat} {l : Nat → Lk.St Nx} {vl : Nat → Int} {now : Int} {P H : Nat → Int} {D G : List Mf} {v v' : Value} (hl : Pl Z w0 w gp g l v D) (hc : PrC w gp g vl v now P H) (hG : ∀ x ∈ G, x ∈ D) (hg : Gr w w') (ho : w'.ownsRow w.heap.size 28 12 v' G.length (G.flatMap fC)) :
    ∃ Y ad' cap', v' = .slice ad' G.length cap' ∧ Pa Y w0 (w'.setCell ⟨gp, 4, none⟩ v') gp g l vl now P H ad' cap' G ∧ PrC w' gp g vl v now P H :=
  pa_row hl hc (fun x hx => hl.fx.nt x (hG x hx)) (own_low ho hl.gr.size) ⟨hg.below.os, hg.below.tape, hg.below.output, hg.below.size, fun k hk _ => hg.below.block k hk⟩ (Or.inr fun b e => (ho.lt b e).1)
theorem lose_in {D : List Mf} {j : Nat} : ∀ x ∈ D.take j ++ D.drop (j + 1), x ∈ D := fun _ hx => (List.mem_append.1 hx).elim List.mem_of_mem_take List.mem_of_mem_drop
end Go.Proofs.Ythfbpilfdfploaa
