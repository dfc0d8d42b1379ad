/- Plain mathematics of the texts of ids: a text cut at its first sign; what is shown. -/
import Derived.Lib.Bytealg
import Derived.Lib.ItoaNum
namespace Go.Proofs.YtmidlcipbpchgaaDoor.Idn

def cut3 : List UInt8 → UInt8 → List UInt8 × List UInt8 × Bool
  | [], _ => ([], [], false)
  | b :: l, c => if b = c then ([], l, true) else (b :: (cut3 l c).1, (cut3 l c).2.1, (cut3 l c).2.2)

theorem index_cut (l : List UInt8) (c : UInt8) :
    (Lib.indexByte l c = -1 ∧ cut3 l c = (l, [], false)) ∨ (∃ i : Nat, Lib.indexByte l c = i ∧ i < l.length ∧ cut3 l c = (l.take i, l.drop (i + 1), true)) := by
  induction l with
  | nil => exact Or.inl ⟨rfl, rfl⟩
  | cons b l ih =>
    unfold Lib.indexByte cut3
    by_cases h : b = c
    · right
      exact ⟨0, by simp [h], by simp, by simp [h]⟩
    · have h' : (b == c) = false := by simpa using h
      rcases ih with ⟨h1, h2⟩ | ⟨i, h1, h2, h3⟩
      · left
        rw [h', h1, h2]
        simp [h]
      · right
        have hne : ((i : Int) == -1) = false := by rw [beq_eq_false_iff_ne]; omega
        refine ⟨i + 1, ?_, by simp; omega, ?_⟩
        · rw [h', h1, hne]; simp
        · rw [if_neg h, h3]; simp

/- the text of an id -/
def hopT (h : Int × Int) : List UInt8 := 47 :: (Lib.decDigits h.1.toNat ++ 64 :: Lib.decDigits h.2.toNat)
def showT (r n : Int) (L : List (Int × Int)) : List UInt8 := Lib.decDigits r.toNat ++ 46 :: Lib.decDigits n.toNat ++ L.flatMap hopT
end Go.Proofs.YtmidlcipbpchgaaDoor.Idn
