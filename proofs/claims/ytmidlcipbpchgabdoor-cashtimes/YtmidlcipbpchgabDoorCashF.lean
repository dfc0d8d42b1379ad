/- The table that the library's texts of numbers lean on; FormatUint at base 10. -/
import Derived.Test.YtmidlcipbpchgabDoorIntA
import Derived.Test.YtmidlcipbpchgabDoorShelfC
import Derived.Lib.AppendIntMem
import Derived.WalkSmall
namespace Go.Proofs.YtmidlcipbpchgabDoor
open Go.RowKit Go.Sort Go.Lib

/- the table of powers lies there -/
structure Env (w : World) : Prop where
  tab : Lib.TabIs Tryd.prog w "internal/strconv.uint64pow10" .u64 Lib.pow10Tab
theorem Env.gr {w w' : World} (h : Env w) (g : Gr w w') : Env w' := by
  obtain ⟨ht⟩ := h
  have hc := World.var?_cell (by kernel_rfl : Tryd.prog.globalNamed "internal/strconv.uint64pow10" = some 0) ht 0
  have hb : 0 < w.heap.size := World.block_lt_of_cell? w ⟨0, 0, none⟩ (u := .int .u64 1) (by rw [hc]; rfl)
  exact ⟨var?_below g.below (by kernel_rfl : Tryd.prog.globalNamed "internal/strconv.uint64pow10" = some 0) hb ht⟩
theorem gr_grow (w : World) (k : Nat) (obs : Array Obj) : Gr w (Sort.grow (w.drewN k) obs) := by
  refine ⟨⟨rfl, rfl, rfl, ?_, ?_⟩⟩
  · simp [Sort.grow, World.drewN]
  · intro j hj
    simp [Sort.grow, World.drewN, Array.getElem?_append, hj]

set_option maxHeartbeats 6400000 in
set_option maxRecDepth 100000 in
theorem formatUint_in (u : Nat) (w : World) (hu64 : u < 18446744073709551616) (he : Env w) :
    Calls Tryd.prog 61 #[.int .u64 u, .int .i64 10] w fun e w' => e = .returned (.string ⟨(Lib.decDigits u).toArray⟩) ∧ Gr w w' := by
  by_cases hs : u < 100
  · have HS : Hid (∀ w', Calls Tryd.prog 65 #[.int .i64 u] w' fun e w2 => e = .returned (.string ⟨(Lib.decDigits u).toArray⟩) ∧ w2 = w') := fun w' => Tryd.internal_strconv_small u hs w'
    clear he
    go_enter Tryd.func61, Tryd.ntmps61
    go_wp2_with fail
    refine (HS.out _).mono ?_
    rintro e w1 ⟨rfl, hw1⟩; obtain rfl := hw1.symm
    go_wp2
    go_ret
    exact ⟨rfl, Gr.refl _⟩
  · have hu1 : 1 ≤ u := by omega
    have hnd20 : Lib.nDigits u ≤ 20 := by have := Lib.numDigits_eq u hu1 hu64; split at this <;> omega
    have hal : Tryd.prog.arrayLen 94 = 24 := by kernel_rfl
    have hsl : ∀ W, (Instr.sliceAt 94 (.pointer (some ⟨w.heap.size, 0, none⟩)) none (some (.int .i64 (Lib.nDigits u : Int))) none).run Tryd.prog W = .ok (.slice (some ⟨w.heap.size, 0, none⟩) (Lib.nDigits u) 24) W := fun W => by
      rw [run_sliceAt_array_h W 94 ⟨w.heap.size, 0, none⟩ (by simp [Program.arrayLen, Program.elem, Tryd.underlying94]) .i64 (Lib.nDigits u : Int) (by omega) (by rw [hal]; omega)]
      go_simp
    have hH0 := Lib.holds_zero0 w 94 (Lib.nDigits u) (by omega)
    have hfmt := Tryd.internal_strconv_formatBase10 w.heap.size 0 24 u (Array.replicate (Lib.nDigits u) 0) (w.alloc (.cells Lib.zeros24 94)) hH0 (by rw [Array.size_replicate]; exact Lib.lt_pow_nDigits u) hu64 (by rw [Array.size_replicate]; omega)
    rw [Array.size_replicate] at hfmt
    have HH0 := Lib.hid hH0
    have HD : Hid (∀ w', Gr w w' → Calls Tryd.prog 66 #[.int .u64 u] w' fun e w2 => e = .returned (.int .i64 (Lib.nDigits u)) ∧ w2 = w') := fun w' g => Tryd.internal_strconv_numDigits u hu1 hu64 w' (he.gr g).tab
    clear hH0 hal he
    go_enter Tryd.func61, Tryd.ntmps61
    go_wp2_with fail
    refine (HD.out _ (by repeat (first | exact Gr.refl _ | refine Gr.alloc ?_ | refine Gr.drew ?_ | refine Gr.trans ?_ (by assumption)))).mono ?_
    rintro e w1 ⟨rfl, hw1⟩; obtain rfl := hw1.symm
    go_wp2_with fail
    refine hfmt.mono ?_
    rintro e w' ⟨rfl, k, v', dk, rfl, hF⟩
    have hcv : (convert 85 9 (.slice (some ⟨w.heap.size, 0, none⟩) (Lib.nDigits u) 24)).run Tryd.prog ((putRow (fun (b : UInt8) => Value.int .u8 (b.toNat : Int)) (w.alloc (.cells Lib.zeros24 94)) w.heap.size 0 dk).drewN k) = .ok (.string ⟨(Lib.decDigits u).toArray⟩) ((putRow (fun (b : UInt8) => Value.int .u8 (b.toNat : Int)) (w.alloc (.cells Lib.zeros24 94)) w.heap.size 0 dk).drewN k) := by
      have h := run_convert_bytes_back (P := Tryd.prog) ((putRow (fun (b : UInt8) => Value.int .u8 (b.toNat : Int)) (w.alloc (.cells Lib.zeros24 94)) w.heap.size 0 dk).drewN k) 85 9 5 ⟨w.heap.size, 0, none⟩ 24 (Lib.decDigits u) Tryd.underlying85 Tryd.underlying5 Tryd.underlying9 (fun j hj => by
        rw [Lib.row_is_numeral hF j hj, Lib.add_plain, World.cell?_drewN]
        exact cell?_putRow (fun (b : UInt8) => Value.int .u8 (b.toNat : Int)) _ w.heap.size 0 _ dk HH0.out (by rw [hF.size, Array.size_replicate]) j (by rw [hF.size]; rw [Lib.decDigits_length] at hj; exact hj))
      rw [Lib.decDigits_length] at h
      exact h
    go_wp2
    go_ret
    obtain ⟨os, eo⟩ := Lib.fin_at w (.cells Lib.zeros24 94) dk k 0
    exact ⟨rfl, by rw [eo]; exact gr_grow w k os⟩

theorem formatUint_any (u : Nat) (w : World) (hu64 : u < 18446744073709551616) (he : Env w) :
    Calls Tryd.prog 56 #[.int .u64 u, .int .i64 10] w fun e w' => e = .returned (.string ⟨(Lib.decDigits u).toArray⟩) ∧ Gr w w' := by
  have HI : Hid (Calls Tryd.prog 61 #[.int .u64 u, .int .i64 10] w fun e w' => e = .returned (.string ⟨(Lib.decDigits u).toArray⟩) ∧ Gr w w') := formatUint_in u w hu64 he
  clear he
  go_enter Tryd.func56, Tryd.ntmps56
  go_wp2_with fail
  refine HI.out.mono ?_
  rintro e w1 ⟨rfl, hg1⟩
  go_wp2
  go_ret
  exact ⟨rfl, hg1⟩
end Go.Proofs.YtmidlcipbpchgabDoor
