
/- Rows of amounts in memory. -/
import Derived.Test.YtilkfgpcibdikaaIdA
import Derived.Test.YtilkfgpcibdikaaBase
import Derived.Laws.OwnMore
import Derived.Maps.AppendAt
namespace Go.Proofs.Ytilkfgpcibdikaa
open Go.RowKit

/- a row of integers in memory, its address whatever where there is none -/
theorem IntsAt.drop {w : World} {b off : Nat} {l : List Int} (h : IntsAt w (some ⟨b, off, none⟩) l) (k : Nat) : IntsAt w (some ⟨b, off + k, none⟩) (l.drop k) := by
  intro j hj
  rw [List.length_drop] at hj
  obtain ⟨b', off', e, hb, hc⟩ := h (k + j) (by omega)
  cases e
  exact ⟨b, off + k, rfl, hb, by rw [List.getElem_drop, Nat.add_assoc]; exact hc⟩
theorem IntsAt.nil {w : World} {ad : Option Addr} : IntsAt w ad [] := fun j h => absurd h (by simp)
theorem lInts_lit2 (w : World) (x y : Int) (t : TypeId) (g : Nat) (hg : g = w.heap.size) : IntsAt (w.alloc (.cells #[.int .i64 x, .int .i64 y] t)) (some ⟨g, 0, none⟩) [x, y] := by
  subst hg
  intro j hj
  match j, hj with
  | 0, _ => exact ⟨_, _, rfl, by simp, by simp⟩
  | 1, _ => exact ⟨_, _, rfl, by simp, by simp⟩
theorem lInts_lit3 (w : World) (x y z : Int) (t : TypeId) (g : Nat) (hg : g = w.heap.size) : IntsAt (w.alloc (.cells #[.int .i64 x, .int .i64 y, .int .i64 z] t)) (some ⟨g, 0, none⟩) [x, y, z] := by
  subst hg
  intro j hj
  match j, hj with
  | 0, _ => exact ⟨_, _, rfl, by simp, by simp⟩
  | 1, _ => exact ⟨_, _, rfl, by simp, by simp⟩
  | 2, _ => exact ⟨_, _, rfl, by simp, by simp⟩

theorem intV_snoc (l : List Int) (a : Int) : intV (l ++ [a]) = intV l ++ [.int .i64 a] := by simp [intV]
theorem lOwn_ints {base : Nat} {v : Value} {l : List Int} {w : World} (h : w.ownsRow base 2 1 v l.length (intV l)) : ∃ ad cap, v = .slice ad l.length cap ∧ l.length ≤ cap ∧ IntsAt w ad l := by
  have hcell := fun g (hg : v.ownBlock = some g) => h.cells hg
  have hlt := h.lt
  obtain ⟨_, ⟨rfl, h0⟩ | ⟨g, cap, cur, rfl, hx⟩⟩ := h
  · have : l = [] := List.length_eq_zero_iff.1 h0
    subst this
    exact ⟨none, 0, rfl, by simp, fun j hj => absurd hj (by simp)⟩
  · refine ⟨some ⟨g, 0, none⟩, cap, rfl, hx.2.2.1, ?_⟩
    intro j hj
    refine ⟨g, 0, rfl, (hlt g rfl).2, ?_⟩
    have := hcell g rfl j (.int .i64 l[j]) (by simp [intV, hj])
    rw [Addr.add_lit] at this
    simpa using this
theorem infoI64 : (Try.prog.info? 2).map (fun i => (i.zero, i.size, i.bytes)) = some (some (.int .i64 0), 1, 8) := by kernel_rfl
end Go.Proofs.Ytilkfgpcibdikaa
