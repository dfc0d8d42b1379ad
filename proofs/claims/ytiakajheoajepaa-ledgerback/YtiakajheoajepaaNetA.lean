/- ledger: the sums of two lists; what is in effect on an account. -/
import Derived.Test.YtiakajheoajepaaCashS
import Derived.Test.YtiakajheoajepaaLedM
namespace Go.Proofs.Ytiakajheoajepaa
open Go.RowKit
open Led (Acc Mk)

theorem val_in {x : Int} (h : -9223372036854775808 ≤ x ∧ x ≤ 9223372036854775807) : Csh.valE x = x ∧ Csh.errE x = 0 := by
  have hb : Csh.okB x = true := by unfold Csh.okB; simp; omega
  unfold Csh.valE Csh.errE
  rw [hb]
  exact ⟨rfl, rfl⟩
theorem together_any (fs ks : List Int) (a1 a2 : Option Addr) (c1 c2 : Nat) (w : World) (h1 : IntsAt w a1 fs) (h2 : IntsAt w a2 ks) (hn1 : fs.length ≤ 9223372036854775807) (hn2 : ks.length ≤ 9223372036854775807)
    (hr1 : ∀ a ∈ fs, -9223372036854775808 ≤ a ∧ a ≤ 9223372036854775807) (hr2 : ∀ a ∈ ks, -9223372036854775808 ≤ a ∧ a ≤ 9223372036854775807)
    (hs1 : -9223372036854775808 ≤ Csh.sumE fs ∧ Csh.sumE fs ≤ 9223372036854775807) (hs2 : -9223372036854775808 ≤ Csh.sumE ks ∧ Csh.sumE ks ≤ 9223372036854775807) :
    Calls Try.prog 36 #[.slice a1 fs.length c1, .slice a2 ks.length c2] w fun e w' => e = .returned (.tuple #[.int .i64 (Csh.sumE fs), .int .i64 (Csh.sumE ks), .int .i64 0]) ∧ w' = w := by
  have H1 : Hid (Calls Try.prog 69 #[.slice a1 fs.length c1] w fun e w' => e = .returned (.tuple #[.int .i64 (Csh.sumE fs), .int .i64 0]) ∧ w' = w) := by
    have := sum_any fs a1 c1 w h1 hn1 hr1
    rw [(val_in hs1).1, (val_in hs1).2] at this
    exact this
  have H2 : Hid (Calls Try.prog 69 #[.slice a2 ks.length c2] w fun e w' => e = .returned (.tuple #[.int .i64 (Csh.sumE ks), .int .i64 0]) ∧ w' = w) := by
    have := sum_any ks a2 c2 w h2 hn2 hr2
    rw [(val_in hs2).1, (val_in hs2).2] at this
    exact this
  clear h1 h2 hn1 hn2 hr1 hr2 hs1 hs2
  go_enter Try.func36, Try.ntmps36
  go_wp2_with fail
  refine H1.out.mono ?_
  rintro e w1 ⟨rfl, hw1⟩; obtain rfl := hw1.symm
  go_wp2_with fail
  refine H2.out.mono ?_
  rintro e w2 ⟨rfl, hw2⟩; obtain rfl := hw2.symm
  go_wp2
  exact bodyPost_ret (v := .tuple #[.int .i64 (Csh.sumE fs), .int .i64 (Csh.sumE ks), .int .i64 0]) (by simp [results, Try.results36, go_sem, *]) rfl ⟨rfl, rfl⟩
end Go.Proofs.Ytiakajheoajepaa
