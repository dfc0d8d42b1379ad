
/- pack.Number lays its number's groups: Pk.num. -/
import Derived.Test.YtoeibjflaiiljaaDoorBase
namespace Go.Proofs.YtoeibjflaiiljaaDoor
open Go.RowKit

set_option maxHeartbeats 400000 in
set_option maxRecDepth 100000 in
theorem number_any (n : Nat) (w : World) (hn : n < 18446744073709551616) :
    Calls Tryd.prog 43 #[.int .u64 n] w fun e w' => e = .returned (.string ⟨(Pk.num n).toArray⟩) ∧ Gr w w' := by
  obtain ⟨i0, hi, hz0, hz1, hz2⟩ := info_parts info5
  have hpow : n < 128 ^ (9 + 1) := by omega
  have hmk : ∀ w : World, (Instr.makeSlice 50 (.int .i64 0) (.int .i64 10)).run Tryd.prog w = .ok (.slice (some ⟨w.heap.size, 0, none⟩) 0 10) (w.alloc (.cells (Array.replicate 10 (.int .u8 0)) 5)) := fun _ => by kernel_rfl
  go_enter Tryd.func43, Tryd.ntmps43
  go_wp2
  go_loopw [0, 3] (fun m v wr => ∃ (f x : Nat) (l : List UInt8), m = .int .u64 x ∧ x ≤ n ∧ x < 128 ^ (f + 1) ∧ f + l.length = 9 ∧ Pk.num n = l ++ Pk.numF f x ∧ wr.ownsRow w.heap.size 5 1 v l.length (Lib.byteCells l) ∧ Below w.heap.size w wr)
    (fun m _ _ => (intOf m).toNat)
  case atStart => exact ⟨9, n, [], rfl, Nat.le_refl _, hpow, rfl, rfl, World.ownsRow_made w _ 10 (Nat.le_refl _) (by decide) (by simp), (Below.refl _ _).alloc (Nat.le_refl _) _⟩
  case round =>
    obtain ⟨f, x, l, rfl, hxn, hx, hf, hnum, hown, hb⟩ := hrel
    have HN : Hid (Pk.num n = l ++ Pk.numF f x) := hnum
    have HX : Hid (x < 128 ^ (f + 1)) := hx
    have HF : Hid (f + l.length = 9) := hf
    clear hnum hmk hx hf hpow
    have hbs := hb.size
    have hl9 : l.length ≤ 9 := by have := HF.out; omega
    have hm1 : l.length + 1 ≤ maxLen := by unfold maxLen; omega
    by_cases hlt : x < 128
    · have hcv := fun v' (w1 : World) (h : w1.ownsRow w.heap.size 5 1 v' (l.length + 1) (Lib.byteCells l ++ [.int .u8 (x : Int)])) => own_string (l := l ++ [UInt8.ofNat x]) (w := w1) (v := v') (n := l.length + 1) (base := w.heap.size) (by rw [byteCells_snoc]; simpa [Nat.mod_eq_of_lt (show x < 256 by omega)] using h) (by simp)
      go_wp2_with (first
        | (at_builtin; refine wpList_append_own _ rfl _ _ 50 rfl w.heap.size 5 i0 (.int .u8 0) 1 1 Tryd.underlying50 hi hz0 hz1 hz2 rfl (by decide) _ _ _ rfl (hown.alloc _) ⟨wr.heap.size, 0, none⟩ 1 1 [.int .u8 x] rfl rfl (cell_one_new _ _ _) (by intro u hu; simp at hu; subst hu; rfl) hm1 (by omega) (by simp; omega) ?_)
        | fail)
      intro v' w1 hown' hgrow _
      have hc1 := hcv v' w1 hown'
      clear hcv
      go_wp2
      go_ret
      have hN := HN.out
      rw [Pk.numF_lt f x hlt] at hN
      refine ⟨by rw [hN]; rfl, ?_⟩
      refine Gr.of ?_
      exact (hb.alloc hbs _).grown hgrow (by simp; omega) (fun k hk => (hown.lt k hk).1)
    · have hf1 : ∃ g, f = g + 1 := by
        cases f with
        | zero => have := HX.out; simp at this; omega
        | succ g => exact ⟨g, rfl⟩
      obtain ⟨g, rfl⟩ := hf1
      go_wp2_with (first
        | (at_builtin; refine wpList_append_own _ rfl _ _ 50 rfl w.heap.size 5 i0 (.int .u8 0) 1 1 Tryd.underlying50 hi hz0 hz1 hz2 rfl (by decide) _ _ _ rfl (hown.alloc _) ⟨wr.heap.size, 0, none⟩ 1 1 [.int .u8 ((x : Int) % 128 + 128)] rfl rfl (cell_one_new _ _ _) (by intro u hu; simp at hu; subst hu; rfl) hm1 (by omega) (by simp; omega) ?_)
        | fail)
      intro v' w1 hown' hgrow _
      go_wp2
      go_roundw
      case rel =>
        refine ⟨g, x / 128, l ++ [UInt8.ofNat (x % 128 + 128)], ?_, ?_, ?_, ?_, ?_, ?_, (hb.alloc hbs _).grown hgrow (by simp; omega) (fun k hk => (hown.lt k hk).1)⟩
        · go_num
        · omega
        · have := HX.out; rw [Nat.pow_succ] at this; omega
        · have := HF.out; simp; omega
        · rw [HN.out, Pk.numF_ge g x hlt]; simp
        · rw [byteCells_snoc]; simp only [List.length_append, List.length_singleton]
          have e : (UInt8.ofNat (x % 128 + 128)).toNat = x % 128 + 128 := by simp; omega
          rw [e]; exact hown'
      case measure => simp [intOf]; omega
end Go.Proofs.YtoeibjflaiiljaaDoor
