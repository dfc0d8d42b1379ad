/- Parts of these proofs, laid together. -/
import Derived.Test.YtcmbppjfpdkblaaGreatDoorGC
/- pack.Number lays its number's groups: Pk.num. -/
namespace Go.Proofs.YtcmbppjfpdkblaaGreatDoor
open Go.RowKit

set_option maxHeartbeats 400000 in
set_option maxRecDepth 100000 in
theorem number_any (n : Nat) (w : World) (hn : n < 18446744073709551616) :
    Calls Tryz.prog 59 #[.int .u64 n] w fun e w' => e = .returned (.string ⟨(Pk.num n).toArray⟩) ∧ Gr w w' := by
  obtain ⟨i0, hi, hz0, hz1, hz2⟩ := info_parts info5
  have hpow : n < 128 ^ (9 + 1) := by omega
  have hmk : ∀ w : World, (Instr.makeSlice 90 (.int .i64 0) (.int .i64 10)).run Tryz.prog w = .ok (.slice (some ⟨w.heap.size, 0, none⟩) 0 10) (w.alloc (.cells (Array.replicate 10 (.int .u8 0)) 5)) := fun _ => by kernel_rfl
  go_enter Tryz.func59, Tryz.ntmps59
  go_wp2
  go_loopw [0, 3] (fun m v wr => ∃ (f x : Nat) (l : List UInt8), m = .int .u64 x ∧ x ≤ n ∧ x < 128 ^ (f + 1) ∧ f + l.length = 9 ∧ Pk.num n = l ++ Pk.numF f x ∧ wr.ownsRow w.heap.size 5 1 v l.length (Lib.byteCells l) ∧ Below w.heap.size w wr)
    (fun m _ _ => (intOf m).toNat)
  case atStart => exact ⟨9, n, [], rfl, Nat.le_refl _, hpow, rfl, rfl, World.ownsRow_made w _ 10 (Nat.le_refl _) (by decide) (by simp), (Below.refl _ _).alloc (Nat.le_refl _) _⟩
  case round =>
    obtain ⟨f, x, l, rfl, hxn, hx, hf, hnum, hown, hb⟩ := hrel
    have HN : Hid (Pk.num n = l ++ Pk.numF f x) := hnum
    have HX : Hid (x < 128 ^ (f + 1)) := hx
    have HF : Hid (f + l.length = 9) := hf
    clear hnum hmk hx hf hpow
    have hbs := hb.size
    have hl9 : l.length ≤ 9 := by have := HF.out; omega
    have hm1 : l.length + 1 ≤ maxLen := by unfold maxLen; omega
    by_cases hlt : x < 128
    · have hcv := fun v' (w1 : World) (h : w1.ownsRow w.heap.size 5 1 v' (l.length + 1) (Lib.byteCells l ++ [.int .u8 (x : Int)])) => own_string (l := l ++ [UInt8.ofNat x]) (w := w1) (v := v') (n := l.length + 1) (base := w.heap.size) (by rw [byteCells_snoc]; simpa [Nat.mod_eq_of_lt (show x < 256 by omega)] using h) (by simp)
      go_wp2_with (first
        | (at_builtin; refine wpList_append_own _ rfl _ _ 90 rfl w.heap.size 5 i0 (.int .u8 0) 1 1 Tryz.underlying90 hi hz0 hz1 hz2 rfl (by decide) _ _ _ rfl (hown.alloc _) ⟨wr.heap.size, 0, none⟩ 1 1 [.int .u8 x] rfl rfl (cell_one_new _ _ _) (by intro u hu; simp at hu; subst hu; rfl) hm1 (by omega) (by simp; omega) ?_)
        | fail)
      intro v' w1 hown' hgrow _
      have hc1 := hcv v' w1 hown'
      clear hcv
      go_wp2
      go_ret
      have hN := HN.out
      rw [Pk.numF_lt f x hlt] at hN
      refine ⟨by rw [hN]; rfl, ?_⟩
      refine Gr.of ?_
      exact (hb.alloc hbs _).grown hgrow (by simp; omega) (fun k hk => (hown.lt k hk).1)
    · have hf1 : ∃ g, f = g + 1 := by
        cases f with
        | zero => have := HX.out; simp at this; omega
        | succ g => exact ⟨g, rfl⟩
      obtain ⟨g, rfl⟩ := hf1
      go_wp2_with (first
        | (at_builtin; refine wpList_append_own _ rfl _ _ 90 rfl w.heap.size 5 i0 (.int .u8 0) 1 1 Tryz.underlying90 hi hz0 hz1 hz2 rfl (by decide) _ _ _ rfl (hown.alloc _) ⟨wr.heap.size, 0, none⟩ 1 1 [.int .u8 ((x : Int) % 128 + 128)] rfl rfl (cell_one_new _ _ _) (by intro u hu; simp at hu; subst hu; rfl) hm1 (by omega) (by simp; omega) ?_)
        | fail)
      intro v' w1 hown' hgrow _
      go_wp2
      go_roundw
      case rel =>
        refine ⟨g, x / 128, l ++ [UInt8.ofNat (x % 128 + 128)], ?_, ?_, ?_, ?_, ?_, ?_, (hb.alloc hbs _).grown hgrow (by simp; omega) (fun k hk => (hown.lt k hk).1)⟩
        · go_num
        · omega
        · have := HX.out; rw [Nat.pow_succ] at this; omega
        · have := HF.out; simp; omega
        · rw [HN.out, Pk.numF_ge g x hlt]; simp
        · rw [byteCells_snoc]; simp only [List.length_append, List.length_singleton]
          have e : (UInt8.ofNat (x % 128 + 128)).toNat = x % 128 + 128 := by simp; omega
          rw [e]; exact hown'
      case measure => simp [intOf]; omega
end Go.Proofs.YtcmbppjfpdkblaaGreatDoor
/- pack.Text lays Pk.text. -/
namespace Go.Proofs.YtcmbppjfpdkblaaGreatDoor
open Go.RowKit

set_option maxHeartbeats 400000 in
set_option maxRecDepth 100000 in
theorem text_any (s : ByteArray) (w : World) (hs : s.size ≤ 140737488355328) :
    Calls Tryz.prog 60 #[.string s] w fun e w' => e = .returned (.string ⟨(Pk.text s.data.toList).toArray⟩) ∧ Gr w w' := by
  have hsz : s.data.toList.length = s.size := by simp
  have hl := Pk.num_len s.size
  have hadd := add_lists (Pk.num s.size) s.data.toList (by omega)
  rw [mk_data] at hadd
  have he : Pk.text s.data.toList = Pk.num s.size ++ s.data.toList := by rw [Pk.text, hsz]
  rw [he]
  have HN : Hid (∀ w : World, Calls Tryz.prog 59 #[.int .u64 s.size] w fun e w' => e = .returned (.string ⟨(Pk.num s.size).toArray⟩) ∧ Gr w w') := fun w => number_any s.size w (by omega)
  generalize Pk.num s.size = t at *
  clear he hsz hl
  go_enter Tryz.func60, Tryz.ntmps60
  go_wp2_with fail
  refine (HN.out _).mono ?_
  rintro e w1 ⟨rfl, hg1⟩
  go_wp2
  go_ret
  exact ⟨rfl, (by repeat (first | exact Gr.refl _ | refine Gr.alloc ?_ | refine Gr.drew ?_ | refine Gr.trans ?_ (by assumption)))⟩
end Go.Proofs.YtcmbppjfpdkblaaGreatDoor
/- ententeref01.Number lays the same: Pk.numF, for whatever fuel suffices. -/
namespace Go.Proofs.YtcmbppjfpdkblaaGreatDoor
open Go.RowKit
attribute [local go_sem ↓] Go.wp_at_zero Go.wp_at_succ

set_option maxHeartbeats 400000 in
set_option maxRecDepth 100000 in
theorem refNumber_any (f : Nat) : ∀ (n : Nat) (w : World), f ≤ 9 → n < 128 ^ (f + 1) → n < 18446744073709551616 →
    Calls Tryz.prog 64 #[.int .u64 n] w fun e w' => e = .returned (.string ⟨(Pk.numF f n).toArray⟩) ∧ Gr w w' := by
  induction f with
  | zero =>
    intro n w hf9 h h1
    have hlt : n < 128 := by simpa using h
    have hc := fun w b => conv1 w b n (by omega)
    go_enter Tryz.func64, Tryz.ntmps64
    go_wp2
    go_ret
    exact ⟨rfl, (by repeat (first | exact Gr.refl _ | refine Gr.alloc ?_ | refine Gr.drew ?_ | refine Gr.trans ?_ (by assumption)))⟩
  | succ f ih =>
    intro n w hf9 h h1
    by_cases hlt : n < 128
    · have hc := fun w b => conv1 w b n (by omega)
      have e := Pk.numF_lt (f + 1) n hlt
      rw [e]
      clear ih e
      go_enter Tryz.func64, Tryz.ntmps64
      go_wp2
      go_ret
      exact ⟨rfl, (by repeat (first | exact Gr.refl _ | refine Gr.alloc ?_ | refine Gr.drew ?_ | refine Gr.trans ?_ (by assumption)))⟩
    · have hc : ∀ (w : World) (b : Nat), w.cell? ⟨b, 0, none⟩ = some (.int .u8 ((n : Int) % 128 + 128)) → (convert 90 9 (.slice (some ⟨b, 0, none⟩) 1 1)).run Tryz.prog w = .ok (.string ⟨#[UInt8.ofNat (n % 128 + 128)]⟩) w := by
        intro w b hw
        exact conv1 w b (n % 128 + 128) (by omega) (by rw [hw]; simp)
      have ih' : ∀ w : World, Calls Tryz.prog 64 #[.int .u64 ((n : Int) / 128)] w fun e w' => e = .returned (.string ⟨(Pk.numF f (n / 128)).toArray⟩) ∧ Gr w w' := by
        intro w
        have := ih (n / 128) w (by omega) (by rw [Nat.pow_succ] at h; omega) (by omega)
        simpa using this
      have hlen := Pk.numF_len f (n / 128)
      have hE0 : (n : Int).tmod 128 = (n : Int) % 128 := by rw [Int.tmod_eq_emod_of_nonneg (by omega)]
      have hE1 : IntKind.u64.wrap ((n : Int) % 128 + 128) = (n : Int) % 128 + 128 := w64 _ (by omega) (by omega)
      have hE2 : IntKind.u8.wrap ((n : Int) % 128 + 128) = (n : Int) % 128 + 128 := w8 _ (by omega) (by omega)
      have hE3 : IntKind.u64.wrap ((n : Int) / 128) = (n : Int) / 128 := w64 _ (by omega) (by omega)
      have e := Pk.numF_ge f n hlt
      rw [e]
      generalize Pk.numF f (n / 128) = t at *
      generalize UInt8.ofNat (n % 128 + 128) = c at *
      have hadd := add_lists [c] t (by simp; omega)
      clear ih e h hlen
      have IH : Hid (∀ w : World, Calls Tryz.prog 64 #[.int .u64 ((n : Int) / 128)] w fun e w' => e = .returned (.string ⟨t.toArray⟩) ∧ Gr w w') := ih'
      clear ih'
      go_enter Tryz.func64, Tryz.ntmps64
      go_wp2
      go_region_with (go_at_call 64; refine (IH.out _).mono ?_; rintro e w1 ⟨rfl, hb1⟩; obtain ⟨hc1, hf1⟩ := hb1.cells)
      all_goals go_wp2
      all_goals go_ret
      all_goals exact ⟨rfl, (by repeat (first | exact Gr.refl _ | refine Gr.alloc ?_ | refine Gr.drew ?_ | refine Gr.trans ?_ (by assumption)))⟩
end Go.Proofs.YtcmbppjfpdkblaaGreatDoor
/- The document's Text lays Pk.text. -/
namespace Go.Proofs.YtcmbppjfpdkblaaGreatDoor
open Go.RowKit

set_option maxHeartbeats 400000 in
set_option maxRecDepth 100000 in
theorem refText_any (s : ByteArray) (w : World) (hs : s.size ≤ 140737488355328) :
    Calls Tryz.prog 41 #[.string s] w fun e w' => e = .returned (.string ⟨(Pk.text s.data.toList).toArray⟩) ∧ Gr w w' := by
  have hsz : s.data.toList.length = s.size := by simp
  have hl := Pk.num_len s.size
  have hadd := add_lists (Pk.num s.size) s.data.toList (by omega)
  rw [mk_data] at hadd
  have he : Pk.text s.data.toList = Pk.num s.size ++ s.data.toList := by rw [Pk.text, hsz]
  rw [he]
  have HN : Hid (∀ w : World, Calls Tryz.prog 64 #[.int .u64 s.size] w fun e w' => e = .returned (.string ⟨(Pk.num s.size).toArray⟩) ∧ Gr w w') := fun w => refNumber_any 9 s.size w (by omega) (by omega) (by omega)
  generalize Pk.num s.size = t at *
  clear he hsz hl
  go_enter Tryz.func41, Tryz.ntmps41
  go_wp2_with fail
  refine (HN.out _).mono ?_
  rintro e w1 ⟨rfl, hg1⟩
  go_wp2
  go_ret
  exact ⟨rfl, (by repeat (first | exact Gr.refl _ | refine Gr.alloc ?_ | refine Gr.drew ?_ | refine Gr.trans ?_ (by assumption)))⟩
end Go.Proofs.YtcmbppjfpdkblaaGreatDoor
