/- awake of layer 2 answers true. -/
import Derived.Test.YtpdcnnlbafcohaaDoorEndsP
namespace Go.Proofs.YtpdcnnlbafcohaaDoor
open Go.RowKit

def fa : List UInt8 := Sl.front 1 [97] ++ Sl.eight (Sl.sum (Sl.front 1 [97]))
theorem fa_len : fa.length = 12 := by decide +kernel
theorem fa_seal : Sl.sealE 1 [97] = (fa, 0) := by decide +kernel
theorem fa_open : Sl.openE fa 0 1 = ([97], 12, 0) := by decide +kernel
theorem fa_other : Sl.openE fa 0 2 = ([], 0, 21) := by decide +kernel
theorem x_open : Sl.openE [120] 0 1 = ([], 0, 20) := by decide +kernel
theorem nine : Sl.sum [49, 50, 51, 52, 53, 54, 55, 56, 57] = 11051210869376104954 := by decide +kernel

set_option maxHeartbeats 1000000 in
set_option maxRecDepth 100000 in
theorem awake2_any (w : World) (hT : Tab w) : Calls Tryd.prog 12 #[] w fun e w' => e = .returned (.bool true) ∧ Gr w w' := by
  have HS : Hid (∀ w', Gr w w' → Calls Tryd.prog 13 #[.int .i64 1, .string ⟨#[97]⟩] w' fun e w2 => e = .returned (.tuple #[.string ⟨fa.toArray⟩, .int .i64 0]) ∧ Gr w' w2) := by
    intro w' g
    have := seal_any 1 ⟨#[97]⟩ w' (hT.gr g) (by decide)
    rw [show ((⟨#[97]⟩ : ByteArray).data.toList) = [97] from rfl, fa_seal] at this
    exact this
  have hfs : (⟨fa.toArray⟩ : ByteArray).size = 12 := by
    have := fa_len
    simpa [ByteArray.size] using this
  have H1 : Hid (∀ w', Gr w w' → Calls Tryd.prog 15 #[.string ⟨fa.toArray⟩, .int .i64 0, .int .i64 1] w' fun e w2 => e = .returned (.tuple #[.string ⟨#[97]⟩, .int .i64 12, .int .i64 0]) ∧ Gr w' w2) := by
    intro w' g
    have := open_any ⟨fa.toArray⟩ 0 1 w' (hT.gr g) (by rw [hfs]; decide)
    rw [show ((⟨fa.toArray⟩ : ByteArray).data.toList) = fa from rfl, fa_open] at this
    exact this
  have H2 : Hid (∀ w', Gr w w' → Calls Tryd.prog 15 #[.string ⟨fa.toArray⟩, .int .i64 0, .int .i64 2] w' fun e w2 => e = .returned (.tuple #[.string ⟨#[]⟩, .int .i64 0, .int .i64 21]) ∧ Gr w' w2) := by
    intro w' g
    have := open_any ⟨fa.toArray⟩ 0 2 w' (hT.gr g) (by rw [hfs]; decide)
    rw [show ((⟨fa.toArray⟩ : ByteArray).data.toList) = fa from rfl, fa_other] at this
    exact this
  have H3 : Hid (∀ w', Gr w w' → Calls Tryd.prog 15 #[.string ⟨#[120]⟩, .int .i64 0, .int .i64 1] w' fun e w2 => e = .returned (.tuple #[.string ⟨#[]⟩, .int .i64 0, .int .i64 20]) ∧ Gr w' w2) := by
    intro w' g
    have := open_any ⟨#[120]⟩ 0 1 w' (hT.gr g) (by decide)
    rw [show ((⟨#[120]⟩ : ByteArray).data.toList) = [120] from rfl, x_open] at this
    exact this
  have H4 : Hid (∀ (w' : World) (k : Nat), Gr w w' → w'.cell? ⟨k, 0, none⟩ = some (.string ⟨#[49, 50, 51, 52]⟩) → w'.cell? ⟨k, 1, none⟩ = some (.string ⟨#[53, 54, 55, 56, 57]⟩) →
      Calls Tryd.prog 9 #[.slice (some ⟨k, 0, none⟩) 2 2] w' fun e w2 => e = .returned (.int .u64 11051210869376104954) ∧ w2 = w') := by
    intro w' k g h0 h1
    have := sum_any [⟨#[49, 50, 51, 52]⟩, ⟨#[53, 54, 55, 56, 57]⟩] (some ⟨k, 0, none⟩) 2 w' (hT.gr g) (strsAt2 h0 h1) (by simp) (by
      intro s hs
      simp at hs
      rcases hs with rfl | rfl <;> decide)
    rw [show flat [⟨#[49, 50, 51, 52]⟩, ⟨#[53, 54, 55, 56, 57]⟩] = [49, 50, 51, 52, 53, 54, 55, 56, 57] from rfl, nine] at this
    exact this
  clear hT
  generalize fa = l at *
  go_enter Tryd.func12, Tryd.ntmps12
  go_wp2_with fail
  refine (HS.out _ (by repeat (first | exact Gr.refl _ | refine Gr.alloc ?_ | refine Gr.drew ?_ | refine Gr.trans ?_ (by assumption)))).mono ?_
  rintro e w1 ⟨rfl, hg1⟩
  go_wp2_with fail
  refine (H1.out _ (by repeat (first | exact Gr.refl _ | refine Gr.alloc ?_ | refine Gr.drew ?_ | refine Gr.trans ?_ (by assumption)))).mono ?_
  rintro e w2 ⟨rfl, hg2⟩
  go_wp2_with fail
  refine (H2.out _ (by repeat (first | exact Gr.refl _ | refine Gr.alloc ?_ | refine Gr.drew ?_ | refine Gr.trans ?_ (by assumption)))).mono ?_
  rintro e w3 ⟨rfl, hg3⟩
  go_wp2_with fail
  refine (H3.out _ (by repeat (first | exact Gr.refl _ | refine Gr.alloc ?_ | refine Gr.drew ?_ | refine Gr.trans ?_ (by assumption)))).mono ?_
  rintro e w4 ⟨rfl, hg4⟩
  go_wp2_with fail
  refine (H4.out _ _ (by repeat (first | exact Gr.refl _ | refine Gr.alloc ?_ | refine Gr.drew ?_ | refine Gr.trans ?_ (by assumption))) (by simp) (by simp)).mono ?_
  rintro e w5 ⟨rfl, rfl⟩
  go_wp2
  go_ret
  exact ⟨rfl, (by repeat (first | exact Gr.refl _ | refine Gr.alloc ?_ | refine Gr.drew ?_ | refine Gr.trans ?_ (by assumption)))⟩
end Go.Proofs.YtpdcnnlbafcohaaDoor
