
/- ententeref01.Number lays the same: Pk.numF, for whatever fuel suffices. -/
import Derived.Test.YtoeibjflaiiljaaDoorBase
namespace Go.Proofs.YtoeibjflaiiljaaDoor
open Go.RowKit
attribute [local go_sem ↓] Go.wp_at_zero Go.wp_at_succ

set_option maxHeartbeats 400000 in
set_option maxRecDepth 100000 in
theorem refNumber_any (f : Nat) : ∀ (n : Nat) (w : World), f ≤ 9 → n < 128 ^ (f + 1) → n < 18446744073709551616 →
    Calls Tryd.prog 37 #[.int .u64 n] w fun e w' => e = .returned (.string ⟨(Pk.numF f n).toArray⟩) ∧ Gr w w' := by
  induction f with
  | zero =>
    intro n w hf9 h h1
    have hlt : n < 128 := by simpa using h
    have hc := fun w b => conv1 w b n (by omega)
    go_enter Tryd.func37, Tryd.ntmps37
    go_wp2
    go_ret
    exact ⟨rfl, (by repeat (first | exact Gr.refl _ | refine Gr.alloc ?_ | refine Gr.drew ?_ | refine Gr.trans ?_ (by assumption)))⟩
  | succ f ih =>
    intro n w hf9 h h1
    by_cases hlt : n < 128
    · have hc := fun w b => conv1 w b n (by omega)
      have e := Pk.numF_lt (f + 1) n hlt
      rw [e]
      clear ih e
      go_enter Tryd.func37, Tryd.ntmps37
      go_wp2
      go_ret
      exact ⟨rfl, (by repeat (first | exact Gr.refl _ | refine Gr.alloc ?_ | refine Gr.drew ?_ | refine Gr.trans ?_ (by assumption)))⟩
    · have hc : ∀ (w : World) (b : Nat), w.cell? ⟨b, 0, none⟩ = some (.int .u8 ((n : Int) % 128 + 128)) → (convert 50 9 (.slice (some ⟨b, 0, none⟩) 1 1)).run Tryd.prog w = .ok (.string ⟨#[UInt8.ofNat (n % 128 + 128)]⟩) w := by
        intro w b hw
        exact conv1 w b (n % 128 + 128) (by omega) (by rw [hw]; simp)
      have ih' : ∀ w : World, Calls Tryd.prog 37 #[.int .u64 ((n : Int) / 128)] w fun e w' => e = .returned (.string ⟨(Pk.numF f (n / 128)).toArray⟩) ∧ Gr w w' := by
        intro w
        have := ih (n / 128) w (by omega) (by rw [Nat.pow_succ] at h; omega) (by omega)
        simpa using this
      have hlen := Pk.numF_len f (n / 128)
      have hE0 : (n : Int).tmod 128 = (n : Int) % 128 := by rw [Int.tmod_eq_emod_of_nonneg (by omega)]
      have hE1 : IntKind.u64.wrap ((n : Int) % 128 + 128) = (n : Int) % 128 + 128 := w64 _ (by omega) (by omega)
      have hE2 : IntKind.u8.wrap ((n : Int) % 128 + 128) = (n : Int) % 128 + 128 := w8 _ (by omega) (by omega)
      have hE3 : IntKind.u64.wrap ((n : Int) / 128) = (n : Int) / 128 := w64 _ (by omega) (by omega)
      have e := Pk.numF_ge f n hlt
      rw [e]
      generalize Pk.numF f (n / 128) = t at *
      generalize UInt8.ofNat (n % 128 + 128) = c at *
      have hadd := add_lists [c] t (by simp; omega)
      clear ih e h hlen
      have IH : Hid (∀ w : World, Calls Tryd.prog 37 #[.int .u64 ((n : Int) / 128)] w fun e w' => e = .returned (.string ⟨t.toArray⟩) ∧ Gr w w') := ih'
      clear ih'
      go_enter Tryd.func37, Tryd.ntmps37
      go_wp2
      go_region_with (go_at_call 37; refine (IH.out _).mono ?_; rintro e w1 ⟨rfl, hb1⟩; obtain ⟨hc1, hf1⟩ := hb1.cells)
      all_goals go_wp2
      all_goals go_ret
      all_goals exact ⟨rfl, (by repeat (first | exact Gr.refl _ | refine Gr.alloc ?_ | refine Gr.drew ?_ | refine Gr.trans ?_ (by assumption)))⟩
end Go.Proofs.YtoeibjflaiiljaaDoor
