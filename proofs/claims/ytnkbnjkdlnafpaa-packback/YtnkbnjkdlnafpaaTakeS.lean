/- pack.TakeSigned takes the number that pack.TakeNumber's stands for. -/
import Derived.Test.YtnkbnjkdlnafpaaTake
namespace Go.Proofs.Ytnkbnjkdlnafpaa
open Go.RowKit

set_option maxHeartbeats 400000 in
set_option maxRecDepth 100000 in
theorem takeSigned_any (s : ByteArray) (p : Int) (w : World) (hs : s.size ≤ 140737488355328) :
    Calls Try.prog 21 #[.string s, .int .i64 p] w fun e w' => e = .returned (.tuple #[.int .i64 (Pk.unsg (Pk.takeNum s.data.toList p).1), .int .i64 (Pk.takeNum s.data.toList p).2.1, .int .i64 (Pk.takeNum s.data.toList p).2.2]) ∧ w' = w := by
  have hsp := Pk.takeNum_spec s.data.toList p
  have HC : Hid (∀ w : World, Calls Try.prog 19 #[.string s, .int .i64 p] w fun e w' => e = .returned (.tuple #[.int .u64 (Pk.takeNum s.data.toList p).1, .int .i64 (Pk.takeNum s.data.toList p).2.1, .int .i64 (Pk.takeNum s.data.toList p).2.2]) ∧ w' = w) := fun w => takeNumber_any s p w hs
  generalize Pk.takeNum s.data.toList p = R at *
  obtain ⟨n, q, e⟩ := R
  simp only at *
  rcases hsp with ⟨rfl, h1, h2, h3, h4⟩ | h | h | h
  · by_cases he : n % 2 = 0
    · have hu : Pk.unsg n = ((n / 2 : Nat) : Int) := by simp [Pk.unsg, he]
      have hz : ((n : Int) % 2 == 0) = true := by simp; omega
      rw [hu]
      clear hu h2 h3 h4
      go_enter Try.func21, Try.ntmps21
      go_wp2_with fail
      refine (HC.out _).mono ?_
      rintro e w1 ⟨rfl, rfl⟩
      go_wp2
      go_ret3
      exact ⟨by simp, rfl⟩
    · have hu : Pk.unsg n = -((n / 2 : Nat) : Int) - 1 := by simp [Pk.unsg, he]
      have hz : ((n : Int) % 2 == 0) = false := by simp; omega
      rw [hu]
      clear hu h2 h3 h4
      go_enter Try.func21, Try.ntmps21
      go_wp2_with fail
      refine (HC.out _).mono ?_
      rintro e w1 ⟨rfl, rfl⟩
      go_wp2
      go_ret3
      exact ⟨by simp, rfl⟩
  all_goals
    simp only [Prod.mk.injEq] at h
    obtain ⟨rfl, rfl, rfl⟩ := h
    have hu : Pk.unsg 0 = 0 := rfl
    rw [hu]
    clear hu
    go_enter Try.func21, Try.ntmps21
    go_wp2_with fail
    refine (HC.out _).mono ?_
    rintro e w1 ⟨rfl, rfl⟩
    go_wp2
    go_ret3
    exact ⟨by simp, rfl⟩
end Go.Proofs.Ytnkbnjkdlnafpaa
