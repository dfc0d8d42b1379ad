
/- Structs of three cells in memory. -/
import Derived.Test.YtilkfgpcibdikaaParP
import Derived.Test.YtilkfgpcibdikaaIntA
namespace Go.Proofs.Ytilkfgpcibdikaa
open Go.RowKit

/- a struct of three cells in memory that may be written -/
theorem BoxAt.set3 {w : World} {g : Nat} {a b c : Value} (h : BoxAt w g a b c) (x y z : Value) :
    BoxAt (((w.setCell ⟨g, 0, none⟩ x).setCell ⟨g, 1, none⟩ y).setCell ⟨g, 2, none⟩ z) g x y z := by
  obtain ⟨h0, h1, h2, f0, f1, f2, hl⟩ := h
  exact ⟨by simp [go_sem, *], by simp [go_sem, *], by simp [go_sem, *], by simp [go_sem, *], by simp [go_sem, *], by simp [go_sem, *], by simpa using hl⟩

/- a struct of three cells that may be written, whatever it holds -/
def RoomAt (w : World) (g : Nat) : Prop := ∃ a b c, BoxAt w g a b c
theorem RoomAt.gr {w w' : World} {g : Nat} (h : RoomAt w g) (k : Gr w w') : RoomAt w' g := by
  obtain ⟨a, b, c, h⟩ := h
  exact ⟨a, b, c, h.gr k⟩
theorem RoomAt.drew {w : World} {g : Nat} (h : RoomAt w g) : RoomAt w.drew g := h.gr (Gr.refl _).drew
theorem RoomAt.new (w : World) (a b c : Value) (t : TypeId) (g : Nat) (hg : g = w.heap.size) : RoomAt (w.alloc (.cells #[a, b, c] t)) g := ⟨a, b, c, BoxAt.new w a b c t g hg⟩
theorem RoomAt.set3 {w : World} {g : Nat} (h : RoomAt w g) (x y z : Value) : RoomAt (((w.setCell ⟨g, 0, none⟩ x).setCell ⟨g, 1, none⟩ y).setCell ⟨g, 2, none⟩ z) g := by
  obtain ⟨a, b, c, h⟩ := h
  exact ⟨x, y, z, h.set3 x y z⟩
end Go.Proofs.Ytilkfgpcibdikaa
