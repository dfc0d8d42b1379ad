/- Rows of pots in memory. -/
import Derived.Test.YtjifhfnigngcjaaBoxA
namespace Go.Proofs.Ytjifhfnigngcjaa
open Go.RowKit

structure Three where
  h : Int
  i : Int
  o : Int
/- a row of pots in memory, its address whatever where there is none -/
def PotsAt (w : World) (ad : Option Addr) (T : List Three) : Prop :=
  ∀ j (h : j < T.length), ∃ b off, ad = some ⟨b, off, none⟩ ∧ b < w.heap.size ∧ w.cell? ⟨b, off + j * 3, none⟩ = some (.int .i64 T[j].h) ∧ w.cell? ⟨b, off + j * 3 + 1, none⟩ = some (.int .i64 T[j].i) ∧ w.cell? ⟨b, off + j * 3 + 2, none⟩ = some (.int .i64 T[j].o)
theorem PotsAt.gr {w w' : World} {ad : Option Addr} {T : List Three} (h : PotsAt w ad T) (g : Gr w w') : PotsAt w' ad T := by
  intro j hj
  obtain ⟨b, off, e, hb, h1, h2, h3⟩ := h j hj
  exact ⟨b, off, e, Nat.lt_of_lt_of_le hb g.size, g.keep h1, g.keep h2, g.keep h3⟩
end Go.Proofs.Ytjifhfnigngcjaa
