
/- The document's eight lays Sl.eight. -/
import Derived.Test.YtoeibjflaiiljaaDoorLaidP
namespace Go.Proofs.YtoeibjflaiiljaaDoor
open Go.RowKit

set_option maxHeartbeats 400000 in
set_option maxRecDepth 100000 in
theorem eight_any (n : Nat) (w : World) (hn : n < 18446744073709551616) :
    Calls Tryd.prog 20 #[.int .u64 n] w fun e w' => e = .returned (.string ⟨(Sl.eight n).toArray⟩) ∧ Gr w w' := by
  obtain ⟨i0, hi, hz0, hz1, hz2⟩ := info_parts info5
  have hcv := fun v' (w1 : World) (h : w1.ownsRow w.heap.size 5 1 v' 8 (Lib.byteCells (Sl.eight n))) => own_string (l := Sl.eight n) (w := w1) (v := v') (n := 8) (base := w.heap.size) h (by intro e; have := Sl.eight_len n; rw [e] at this; cases this)
  have HC : Hid (∀ v' (w1 : World), w1.ownsRow w.heap.size 5 1 v' 8 (Lib.byteCells (Sl.eight n)) → (convert 50 9 v').run Tryd.prog w1 = .ok (.string ⟨(Sl.eight n).toArray⟩) w1) := hcv
  clear hcv
  go_enter Tryd.func20, Tryd.ntmps20
  go_wp2
  go_loopw [0, 3, 4] (fun m v i wr => ∃ k : Nat, k ≤ 8 ∧ i = .int .i64 k ∧ m = .int .u64 (n / 256 ^ k : Nat) ∧ wr.ownsRow w.heap.size 5 1 v k (Lib.byteCells (Sl.eightF k n)) ∧ Below w.heap.size w wr)
    (fun _ _ i _ => 8 - (intOf i).toNat)
  case atStart => exact ⟨0, by omega, rfl, by simp, World.ownsRow_nil _ _ _ _, Below.refl _ _⟩
  case round =>
    obtain ⟨k, hk, rfl, rfl, hown, hb⟩ := hrel
    have hbs := hb.size
    by_cases hlt : k < 8
    · have hm1 : k + 1 ≤ maxLen := by unfold maxLen; omega
      have hx : n / 256 ^ k < 18446744073709551616 := Nat.lt_of_le_of_lt (Nat.div_le_self _ _) hn
      have HE : Hid (n / 256 ^ (k + 1) = n / 256 ^ k / 256) := by show _ = _; rw [Nat.div_div_eq_div_mul, Nat.pow_succ]
      have HS := Sl.eightF_snoc k n
      have HS2 : Hid (Lib.byteCells (Sl.eightF (k + 1) n) = Lib.byteCells (Sl.eightF k n) ++ [.int .u8 ((n / 256 ^ k : Nat) % 256 : Int)]) := by
        show _ = _
        rw [HS, byteCells_snoc]
        generalize n / 256 ^ k = m
        simp
      clear HS
      generalize n / 256 ^ k = x at *
      go_wp2_with (first
        | (at_builtin; refine wpList_append_own _ rfl _ _ 50 rfl w.heap.size 5 i0 (.int .u8 0) 1 1 Tryd.underlying50 hi hz0 hz1 hz2 rfl (by decide) _ _ _ rfl (hown.alloc _) ⟨wr.heap.size, 0, none⟩ 1 1 [.int .u8 ((x : Int) % 256)] rfl rfl (cell_one_new _ _ _) (by intro u hu; simp at hu; subst hu; rfl) hm1 (by omega) (by simp; omega) ?_)
        | fail)
      intro v' w1 hown' hgrow _
      go_wp2
      go_roundw
      case rel =>
        refine ⟨k + 1, by omega, by go_num, by rw [HE.out]; go_num, by rw [HS2.out]; exact hown', (hb.alloc hbs _).grown hgrow (by simp; omega) (fun k hk => (hown.lt k hk).1)⟩
      case measure => simp [intOf]; omega
    · have hk8 : k = 8 := by omega
      subst hk8
      have hc1 := HC.out _ wr hown
      clear HC
      go_wp2
      go_ret
      exact ⟨rfl, ⟨hb⟩⟩
end Go.Proofs.YtoeibjflaiiljaaDoor
