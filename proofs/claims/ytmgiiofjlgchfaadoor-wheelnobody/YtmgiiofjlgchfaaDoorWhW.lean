
/- wheel: of nil, and of a wheel that no call made. -/
import Derived.Test.YtmgiiofjlgchfaaDoorWhV
namespace Go.Proofs.YtmgiiofjlgchfaaDoor
open Go.RowKit Go.Maps Go.Sort

/- a wheel that is none, in whatever world comes -/
def NoW (w : World) (p : Value) : Prop := ∀ w', Gr w w' → Calls Tryd.prog 26 #[p] w' fun e w2 => e = .returned (.bool true) ∧ w2 = w'
theorem NoW.gr {w w' : World} {p : Value} (h : NoW w p) (g : Gr w w') : NoW w' p := fun w2 g2 => h w2 (g.trans g2)
set_option maxHeartbeats 1000000 in
set_option maxRecDepth 100000 in
theorem noW_nil (w : World) : NoW w (.pointer none) := by
  intro w' _
  go_enter Tryd.func26, Tryd.ntmps26
  go_wp2
  go_ret
  exact ⟨rfl, rfl⟩
set_option maxHeartbeats 1000000 in
set_option maxRecDepth 100000 in
theorem noW_blank {w : World} {b : Nat} (h : w.cell? ⟨b, 1, none⟩ = some (.map none)) : NoW w (ptr b) := by
  intro w' g
  have h1 := g.keep h
  have h2 := map_none w'
  clear h g
  go_enter Tryd.func26, Tryd.ntmps26
  go_wp2
  go_ret
  exact ⟨rfl, rfl⟩
set_option maxHeartbeats 1000000 in
set_option maxRecDepth 100000 in
theorem noNow {w : World} {p : Value} (h : NoW w p) : Calls Tryd.prog 23 #[p] w fun e w' => e = .returned (.int .i64 0) ∧ w' = w := by
  have hN := h w (Gr.refl w)
  clear h
  go_enter Tryd.func23, Tryd.ntmps23
  go_wp2_with (go_at_call 26; refine hN.mono ?_; rintro e w' ⟨rfl, hw⟩; obtain rfl := hw.symm; clear hw)
  go_ret
  exact ⟨rfl, rfl⟩
set_option maxHeartbeats 1000000 in
set_option maxRecDepth 100000 in
theorem noAt {w : World} {p : Value} (h : NoW w p) (k : ByteArray) : Calls Tryd.prog 21 #[p, .string k] w fun e w' => e = .returned (.tuple #[.int .i64 0, .bool false]) ∧ w' = w := by
  have hN := h w (Gr.refl w)
  clear h
  go_enter Tryd.func21, Tryd.ntmps21
  go_wp2_with (go_at_call 26; refine hN.mono ?_; rintro e w' ⟨rfl, hw⟩; obtain rfl := hw.symm; clear hw)
  go_ret2
  exact ⟨rfl, rfl⟩
set_option maxHeartbeats 1000000 in
set_option maxRecDepth 100000 in
theorem noSet {w : World} {p : Value} (h : NoW w p) (k : ByteArray) (a : Int) : Calls Tryd.prog 11 #[p, .string k, .int .i64 a] w fun e w' => e = .returned (.int .i64 1) ∧ w' = w := by
  have hN := h w (Gr.refl w)
  clear h
  go_enter Tryd.func11, Tryd.ntmps11
  go_wp2_with (go_at_call 26; refine hN.mono ?_; rintro e w' ⟨rfl, hw⟩; obtain rfl := hw.symm; clear hw)
  go_ret
  exact ⟨rfl, rfl⟩
set_option maxHeartbeats 1000000 in
set_option maxRecDepth 100000 in
theorem noDrop {w : World} {p : Value} (h : NoW w p) (k : ByteArray) : Calls Tryd.prog 14 #[p, .string k] w fun e w' => e = .returned (.bool false) ∧ Gr w w' := by
  have hA := noAt (h.gr (Gr.refl w).alloc (w' := w.alloc (.cells #[.string k] 9))) k
  clear h
  go_enter Tryd.func14, Tryd.ntmps14
  go_wp2_with (go_at_call 21; refine hA.mono ?_; rintro e w' ⟨rfl, rfl⟩)
  go_ret
  exact ⟨rfl, (Gr.refl _).alloc⟩
set_option maxHeartbeats 1000000 in
set_option maxRecDepth 100000 in
theorem noAll {w : World} {p : Value} (h : NoW w p) : Calls Tryd.prog 24 #[p] w fun e w' => e = .returned (.slice none 0 0) ∧ w' = w := by
  have hN := h w (Gr.refl w)
  clear h
  go_enter Tryd.func24, Tryd.ntmps24
  go_wp2_with (go_at_call 26; refine hN.mono ?_; rintro e w' ⟨rfl, hw⟩; obtain rfl := hw.symm; clear hw)
  go_ret
  exact ⟨rfl, rfl⟩
set_option maxHeartbeats 1000000 in
set_option maxRecDepth 100000 in
theorem noTick {w : World} {p : Value} (h : NoW w p) : Calls Tryd.prog 17 #[p] w fun e w' => e = .returned (.slice none 0 0) ∧ w' = w := by
  have hN := h w (Gr.refl w)
  clear h
  go_enter Tryd.func17, Tryd.ntmps17
  go_wp2_with (go_at_call 26; refine hN.mono ?_; rintro e w' ⟨rfl, hw⟩; obtain rfl := hw.symm; clear hw)
  go_ret
  exact ⟨rfl, rfl⟩
set_option maxHeartbeats 1000000 in
set_option maxRecDepth 100000 in
theorem noSkip {w : World} {p : Value} (h : NoW w p) (n : Int) : Calls Tryd.prog 19 #[p, .int .i64 n] w fun e w' => e = .returned (.tuple #[.slice none 0 0, .int .i64 1]) ∧ w' = w := by
  have hN := h w (Gr.refl w)
  clear h
  go_enter Tryd.func19, Tryd.ntmps19
  go_wp2_with (go_at_call 26; refine hN.mono ?_; rintro e w' ⟨rfl, hw⟩; obtain rfl := hw.symm; clear hw)
  go_ret2
  exact ⟨rfl, rfl⟩
end Go.Proofs.YtmgiiofjlgchfaaDoor
