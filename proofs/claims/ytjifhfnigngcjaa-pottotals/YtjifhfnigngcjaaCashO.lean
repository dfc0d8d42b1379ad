/- A row of amounts, parted in two. -/
import Derived.Test.YtjifhfnigngcjaaIntA
import Derived.WalkSmall
namespace Go.Proofs.Ytjifhfnigngcjaa
open Go.RowKit

theorem cell_one_at (w : World) (x : Value) (t : TypeId) (n : Nat) (hn : n = w.heap.size) : ∀ j u, [x][j]? = some u → (w.alloc (.cells #[x] t)).cell? ((⟨n, 0, none⟩ : Addr).add j) = some u := by
  subst hn; exact cell_one_new w x t
def highAd (ad : Option Addr) (cap c : Nat) : Option Addr := if cap = c then ad else ad.map (·.add c)
theorem slice_low (ad : Option Addr) (n cap c : Nat) (hc : c ≤ n) (hn : n ≤ cap) (W : World) :
    (Instr.sliceAt 51 (.slice ad n cap) none (some (.int .i64 c)) none).run Try.prog W = .ok (.slice ad c cap) W := by
  have h1 : (c : Int) ≤ cap := by omega
  go_simp
theorem slice_high (ad : Option Addr) (n cap c : Nat) (hc : c ≤ n) (W : World) :
    (Instr.sliceAt 51 (.slice ad n cap) (some (.int .i64 c)) none none).run Try.prog W = .ok (.slice (highAd ad cap c) (n - c) (cap - c)) W := by
  have h1 : (c : Int) ≤ n := by omega
  go_simp
  unfold highAd
  rfl
theorem IntsAt.high {w : World} {ad : Option Addr} {l : List Int} (h : IntsAt w ad l) (cap c : Nat) (hl : l.length ≤ cap) : IntsAt w (highAd ad cap c) (l.drop c) := by
  by_cases hc : c < l.length
  · obtain ⟨b, off, rfl, _⟩ := h 0 (by omega)
    unfold highAd
    rw [if_neg (by omega)]
    rw [Option.map_some, Addr.add_lit]
    exact h.drop c
  · rw [List.drop_eq_nil_of_le (by omega)]; exact IntsAt.nil
end Go.Proofs.Ytjifhfnigngcjaa
