/- pack.Signed and the document's Signed lay the number that stands for theirs. -/
import Derived.Test.YtnkbnjkdlnafpaaNum
import Derived.Test.YtnkbnjkdlnafpaaRefNum
namespace Go.Proofs.Ytnkbnjkdlnafpaa
open Go.RowKit

set_option maxHeartbeats 400000 in
set_option maxRecDepth 100000 in
theorem signed_any (m : Int) (w : World) (h0 : -9223372036854775808 ≤ m) (h1 : m < 9223372036854775808) :
    Calls Try.prog 11 #[.int .i64 m] w fun e w' => e = .returned (.string ⟨(Pk.num (Pk.sgn m)).toArray⟩) ∧ Gr w w' := by
  have hs := Pk.sgn_lt m h0 h1
  by_cases hp : 0 ≤ m
  · have hc : ∀ w : World, Calls Try.prog 9 #[.int .u64 (m * 2)] w fun e w' => e = .returned (.string ⟨(Pk.num (Pk.sgn m)).toArray⟩) ∧ Gr w w' := by
      intro w; rw [← Pk.sgn_pos m hp]; exact number_any _ w hs
    generalize Pk.num (Pk.sgn m) = t at *
    have HC : Hid (∀ w : World, Calls Try.prog 9 #[.int .u64 (m * 2)] w fun e w' => e = .returned (.string ⟨t.toArray⟩) ∧ Gr w w') := hc
    clear hc hs
    go_enter Try.func11, Try.ntmps11
    go_wp2_with fail
    refine (HC.out _).mono ?_
    rintro e w1 ⟨rfl, hg1⟩
    go_wp2
    go_ret
    exact ⟨rfl, (by repeat (first | exact Gr.refl _ | refine Gr.alloc ?_ | refine Gr.drew ?_ | refine Gr.trans ?_ (by assumption)))⟩
  · have hc : ∀ w : World, Calls Try.prog 9 #[.int .u64 (-(m + 1) * 2 + 1)] w fun e w' => e = .returned (.string ⟨(Pk.num (Pk.sgn m)).toArray⟩) ∧ Gr w w' := by
      intro w; rw [← Pk.sgn_neg m hp]; exact number_any _ w hs
    generalize Pk.num (Pk.sgn m) = t at *
    have HC : Hid (∀ w : World, Calls Try.prog 9 #[.int .u64 (-(m + 1) * 2 + 1)] w fun e w' => e = .returned (.string ⟨t.toArray⟩) ∧ Gr w w') := hc
    clear hc hs
    go_enter Try.func11, Try.ntmps11
    go_wp2_with fail
    refine (HC.out _).mono ?_
    rintro e w1 ⟨rfl, hg1⟩
    go_wp2
    go_ret
    exact ⟨rfl, (by repeat (first | exact Gr.refl _ | refine Gr.alloc ?_ | refine Gr.drew ?_ | refine Gr.trans ?_ (by assumption)))⟩
set_option maxHeartbeats 400000 in
set_option maxRecDepth 100000 in
theorem refSigned_any (m : Int) (w : World) (h0 : -9223372036854775808 ≤ m) (h1 : m < 9223372036854775808) :
    Calls Try.prog 12 #[.int .i64 m] w fun e w' => e = .returned (.string ⟨(Pk.num (Pk.sgn m)).toArray⟩) ∧ Gr w w' := by
  have hs := Pk.sgn_lt m h0 h1
  by_cases hp : 0 ≤ m
  · have hc : ∀ w : World, Calls Try.prog 10 #[.int .u64 (2 * m)] w fun e w' => e = .returned (.string ⟨(Pk.num (Pk.sgn m)).toArray⟩) ∧ Gr w w' := by
      intro w; rw [show 2 * m = (Pk.sgn m : Int) from by rw [Pk.sgn_pos m hp]; omega]; exact refNumber_any 9 _ w (by omega) (by omega) hs
    generalize Pk.num (Pk.sgn m) = t at *
    have HC : Hid (∀ w : World, Calls Try.prog 10 #[.int .u64 (2 * m)] w fun e w' => e = .returned (.string ⟨t.toArray⟩) ∧ Gr w w') := hc
    clear hc hs
    go_enter Try.func12, Try.ntmps12
    go_wp2_with fail
    refine (HC.out _).mono ?_
    rintro e w1 ⟨rfl, hg1⟩
    go_wp2
    go_ret
    exact ⟨rfl, (by repeat (first | exact Gr.refl _ | refine Gr.alloc ?_ | refine Gr.drew ?_ | refine Gr.trans ?_ (by assumption)))⟩
  · have hc : ∀ w : World, Calls Try.prog 10 #[.int .u64 (2 * -(m + 1) + 1)] w fun e w' => e = .returned (.string ⟨(Pk.num (Pk.sgn m)).toArray⟩) ∧ Gr w w' := by
      intro w; rw [show 2 * -(m + 1) + 1 = (Pk.sgn m : Int) from by rw [Pk.sgn_neg m hp]; omega]; exact refNumber_any 9 _ w (by omega) (by omega) hs
    generalize Pk.num (Pk.sgn m) = t at *
    have HC : Hid (∀ w : World, Calls Try.prog 10 #[.int .u64 (2 * -(m + 1) + 1)] w fun e w' => e = .returned (.string ⟨t.toArray⟩) ∧ Gr w w') := hc
    clear hc hs
    go_enter Try.func12, Try.ntmps12
    go_wp2_with fail
    refine (HC.out _).mono ?_
    rintro e w1 ⟨rfl, hg1⟩
    go_wp2
    go_ret
    exact ⟨rfl, (by repeat (first | exact Gr.refl _ | refine Gr.alloc ?_ | refine Gr.drew ?_ | refine Gr.trans ?_ (by assumption)))⟩
end Go.Proofs.Ytnkbnjkdlnafpaa
