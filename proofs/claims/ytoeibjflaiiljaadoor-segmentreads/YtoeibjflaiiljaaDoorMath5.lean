
/- Lists of texts that are together small. -/
import Derived.Test.YtoeibjflaiiljaaDoorMath4
namespace Pk
def smallF : Nat → List ByteArray → Bool
  | _, [] => true
  | n, s :: r => if 50000 < n + (min s.size 100000 + 10) then false else smallF (n + (min s.size 100000 + 10)) r
def small (l : List ByteArray) : Bool := smallF 0 l
theorem smallF_sum (l : List ByteArray) : ∀ n, n ≤ 50000 → smallF n l = true → n + (body l).length ≤ 50000 ∧ n + l.length * 10 ≤ 50000 ∧ ∀ s ∈ l, s.size ≤ 50000 := by
  induction l with
  | nil => intro n hn _; simp [body, hn]
  | cons s r ih =>
    intro n hn h
    rw [smallF] at h
    split at h
    · cases h
    · rename_i hle
      have := ih _ (by omega) h
      obtain ⟨h1, h2, h3⟩ := this
      have hsz : s.data.toList.length = s.size := by simp
      have hb : (body (s :: r)).length = (text s.data.toList).length + (body r).length := by simp [body]
      have ht : (text s.data.toList).length = (num s.size).length + s.size := by rw [text, List.length_append, hsz]
      have hl := num_len s.size
      refine ⟨by omega, by simp; omega, ?_⟩
      intro x hx
      rcases List.mem_cons.1 hx with rfl | hx
      · omega
      · exact h3 x hx
theorem small_sum (l : List ByteArray) (h : small l = true) : (texts l).length ≤ 50010 ∧ l.length ≤ 5000 ∧ ∀ s ∈ l, s.size ≤ 50000 := by
  obtain ⟨h1, h2, h3⟩ := smallF_sum l 0 (by omega) h
  have := num_len l.length
  refine ⟨?_, by omega, h3⟩
  rw [texts, List.length_append]; omega
end Pk
