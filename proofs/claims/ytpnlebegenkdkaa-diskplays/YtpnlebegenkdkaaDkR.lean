
/- Rows of files in memory. -/
import Derived.Test.YtpnlebegenkdkaaDkA
namespace Go.Proofs.Ytpnlebegenkdkaa
open Go.RowKit
open Dk (Fl Fo St Ok Up zf emp used cutF fallA kf)

def flf (f : Fl) : List Value := [.int .i64 f.n, .string f.d, .int .i64 f.y]
theorem flf_len (x : Fl) : (flf x).length = 3 := rfl
theorem infoF : (Try.prog.info? 40).map (fun i => (i.zero, i.size, i.bytes)) = some (some (.agg #[.int .i64 0, .string ⟨#[]⟩, .int .i64 0]), 3, 32) := by kernel_rfl
theorem flf_one (L : List Fl) : ∀ u ∈ L.flatMap flf, u.oneCell' = true := by
  intro u hu
  obtain ⟨x, _, h⟩ := List.mem_flatMap.1 hu
  simp only [flf, List.mem_cons, List.not_mem_nil, or_false] at h
  rcases h with rfl | rfl | rfl <;> rfl
theorem fl_at {w : World} {L : List Fl} {ad : Option Addr} (h : RowAt flf w ad L) (k : Nat) (hk : k < L.length) : ∃ x off, ad = some ⟨x, off, none⟩ ∧ x < w.heap.size ∧ w.cell? ⟨x, off + k * 3, none⟩ = some (.int .i64 L[k].n) ∧ w.cell? ⟨x, off + k * 3 + 1, none⟩ = some (.string L[k].d) ∧ w.cell? ⟨x, off + k * 3 + 2, none⟩ = some (.int .i64 L[k].y) := by
  obtain ⟨x, off, e, h1, h2⟩ := h _ _ (flat_get flf_len L k hk 0 (by omega))
  obtain ⟨x', off', e', _, h3⟩ := h _ _ (flat_get flf_len L k hk 1 (by omega))
  obtain ⟨x'', off'', e'', _, h4⟩ := h _ _ (flat_get flf_len L k hk 2 (by omega))
  subst e
  cases e'
  cases e''
  exact ⟨_, _, rfl, h1, h2, by rw [← Nat.add_assoc] at h3; exact h3, by rw [← Nat.add_assoc] at h4; exact h4⟩
/- one file in a new block -/
theorem fl_new (w : World) (f : Fl) : ∀ j u, ([f].flatMap flf)[j]? = some u → (w.alloc (.cells #[.int .i64 f.n, .string f.d, .int .i64 f.y] 40)).cell? ((⟨w.heap.size, 0, none⟩ : Addr).add j) = some u := by
  intro j u h
  rw [Addr.add_lit, Nat.zero_add]
  simp only [List.flatMap_cons, List.flatMap_nil, List.append_nil, flf] at h
  match j, h with
  | 0, h => simpa using h
  | 1, h => simpa using h
  | 2, h => simpa using h
theorem fl_snoc (R : List Fl) (f : Fl) : (R ++ [f]).flatMap flf = R.flatMap flf ++ [f].flatMap flf := by rw [List.flatMap_append]
theorem own_gr {a w w' : World} {base : Nat} {e : TypeId} {size n : Nat} {v : Value} {xs : List Value} (h : w.ownsRow base e size v n xs) (g : Gr a w) (k : w.grownBy w' v.ownBlock) (hb : a.heap.size ≤ base) : Gr a w' :=
  g.grown k (fun j hj => Nat.le_trans hb (h.lt j hj).1)
theorem row_keep {w w' : World} {base : Nat} {e : TypeId} {size n : Nat} {v : Value} {xs : List Value} (h : w.ownsRow base e size v n xs) (hk : ∀ j, v.ownBlock = some j → w'.heap[j]? = w.heap[j]?) : w'.ownsRow base e size v n xs := by
  obtain ⟨h1, ⟨rfl, h2⟩ | ⟨g, cap, cur, rfl, h3, h4, h5⟩⟩ := h
  · exact ⟨h1, Or.inl ⟨rfl, h2⟩⟩
  · exact ⟨h1, Or.inr ⟨g, cap, cur, rfl, h3, (hk g rfl).trans h4, h5⟩⟩
theorem row_gr {w w' : World} {base : Nat} {e : TypeId} {size n : Nat} {v : Value} {xs : List Value} (h : w.ownsRow base e size v n xs) (g : Gr w w') : w'.ownsRow base e size v n xs :=
  row_keep h (fun j hj => g.below.block j (h.lt j hj).2)
theorem own_slice {w : World} {base : Nat} {e : TypeId} {size n : Nat} {v : Value} {xs : List Value} (h : w.ownsRow base e size v n xs) : ∃ ad cap, v = .slice ad n cap := by
  obtain ⟨h1, ⟨rfl, h2⟩ | ⟨g, cap, cur, rfl, _⟩⟩ := h
  · exact ⟨none, 0, by rw [h2]⟩
  · exact ⟨_, _, rfl⟩
theorem own_none (w : World) (base : Nat) : w.ownsRow base 40 3 (.slice none 0 0) 0 [] := ⟨by simp, Or.inl ⟨rfl, rfl⟩⟩
end Go.Proofs.Ytpnlebegenkdkaa
