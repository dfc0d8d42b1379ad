/- Plain mathematics: what is pending, undone from its first end, or from its last. -/
import Derived.Test.YtjifhfnigngcjaaPotS
import Derived.Test.YtjifhfnigngcjaaBoxB
namespace Go.Proofs.Ytjifhfnigngcjaa.Pot

theorem Inv.front {first h i o kept : Int} {O : List Four} {k : Nat} (v : Inv first h i o kept (O.drop k)) (hk : k < O.length) :
    eUn O[k].out h i o O[k].amt = 0 ∧ Inv first (sg O[k].out (h + O[k].amt) (h - O[k].amt)) (sg O[k].out i (i - O[k].amt)) (sg O[k].out (o - O[k].amt) o) kept (O.drop (k + 1)) := by
  have hl : 0 < (O.drop k).length := by rw [List.length_drop]; omega
  have h1 := v.can 0 hl
  have h2 := v.undo 0 hl
  have e : (O.drop k)[0] = O[k] := by rw [List.getElem_drop]; rfl
  rw [e] at h1 h2
  rw [List.take_zero, List.nil_append, List.drop_drop] at h2
  exact ⟨h1, h2⟩
theorem Inv.back {first h i o kept : Int} {O : List Four} {m : Nat} (v : Inv first h i o kept (O.take (m + 1))) (hk : m < O.length) :
    eUn O[m].out h i o O[m].amt = 0 ∧ Inv first (sg O[m].out (h + O[m].amt) (h - O[m].amt)) (sg O[m].out i (i - O[m].amt)) (sg O[m].out (o - O[m].amt) o) kept (O.take m) := by
  have hl : m < (O.take (m + 1)).length := by rw [List.length_take]; omega
  have h1 := v.can m hl
  have h2 := v.undo m hl
  have e : (O.take (m + 1))[m] = O[m] := by rw [List.getElem_take]
  rw [e] at h1 h2
  rw [List.take_take, List.drop_eq_nil_of_le (by rw [List.length_take]; omega), List.append_nil, Nat.min_eq_left (by omega)] at h2
  exact ⟨h1, h2⟩
theorem Inv.ended {first h i o kept : Int} (v : Inv first h i o kept []) : h = first + kept ∧ i = 0 ∧ o = 0 := by
  have h1 := v.ie
  have h2 := v.oe
  have h3 := v.he
  simp only [inS, outS] at h1 h2
  omega
end Go.Proofs.Ytjifhfnigngcjaa.Pot
namespace Go.Proofs.Ytjifhfnigngcjaa
theorem boxes2 {w : World} {g k : Nat} {a b c x y z : Value} (h : BoxAt w g a b c) (j : BoxAt w k x y z) : w.cell? ⟨g, 0, none⟩ = some a ∧ w.cell? ⟨g, 1, none⟩ = some b ∧ w.cell? ⟨g, 2, none⟩ = some c ∧ w.cell? ⟨k, 0, none⟩ = some x ∧ w.cell? ⟨k, 1, none⟩ = some y ∧ w.cell? ⟨k, 2, none⟩ = some z := ⟨h.c0, h.c1, h.c2, j.c0, j.c1, j.c2⟩
end Go.Proofs.Ytjifhfnigngcjaa
