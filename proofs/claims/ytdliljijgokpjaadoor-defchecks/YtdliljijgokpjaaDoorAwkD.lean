/- awake of layer 9. -/
import Derived.Test.YtdliljijgokpjaaDoorDefV
import Derived.Test.YtdliljijgokpjaaDoorDefW
namespace Go.Proofs.YtdliljijgokpjaaDoor
open Go.RowKit
open Df (Stp chE defB stpB)

def trip : ByteArray := ⟨#[116, 114, 105, 112]⟩
def tripL : List Stp := [⟨1, ⟨#[99, 97, 115, 104]⟩, 5, 0, ⟨#[]⟩, 3, 0⟩, ⟨0, ⟨#[]⟩, 0, 2, ⟨#[104, 111, 116, 101, 108]⟩, 0, 20⟩]
theorem trip_text : tE [115, 97, 103, 97, 32, 116, 114, 105, 112, 32, 123, 32, 100, 101, 98, 105, 116, 32, 99, 97, 115, 104, 32, 53, 32, 116, 114, 105, 101, 115, 32, 51, 59, 32, 97, 115, 107, 32, 50, 32, 104, 111, 116, 101, 108, 59, 32, 125] = 0 ∧ tA [115, 97, 103, 97, 32, 116, 114, 105, 112, 32, 123, 32, 100, 101, 98, 105, 116, 32, 99, 97, 115, 104, 32, 53, 32, 116, 114, 105, 101, 115, 32, 51, 59, 32, 97, 115, 107, 32, 50, 32, 104, 111, 116, 101, 108, 59, 32, 125] = 0 ∧ tN [115, 97, 103, 97, 32, 116, 114, 105, 112, 32, 123, 32, 100, 101, 98, 105, 116, 32, 99, 97, 115, 104, 32, 53, 32, 116, 114, 105, 101, 115, 32, 51, 59, 32, 97, 115, 107, 32, 50, 32, 104, 111, 116, 101, 108, 59, 32, 125] = trip ∧ tL [115, 97, 103, 97, 32, 116, 114, 105, 112, 32, 123, 32, 100, 101, 98, 105, 116, 32, 99, 97, 115, 104, 32, 53, 32, 116, 114, 105, 101, 115, 32, 51, 59, 32, 97, 115, 107, 32, 50, 32, 104, 111, 116, 101, 108, 59, 32, 125] = tripL := ⟨by rfl, by rfl, by rfl, by rfl⟩
theorem t_text : tE [115, 97, 103, 97, 32, 116, 32, 123, 32, 100, 101, 98, 105, 116, 32, 99, 97, 115, 104, 59, 32, 125] = 81 ∧ tA [115, 97, 103, 97, 32, 116, 32, 123, 32, 100, 101, 98, 105, 116, 32, 99, 97, 115, 104, 59, 32, 125] = 19 ∧ tN [115, 97, 103, 97, 32, 116, 32, 123, 32, 100, 101, 98, 105, 116, 32, 99, 97, 115, 104, 59, 32, 125] = ⟨#[]⟩ ∧ tL [115, 97, 103, 97, 32, 116, 32, 123, 32, 100, 101, 98, 105, 116, 32, 99, 97, 115, 104, 59, 32, 125] = [] := ⟨by rfl, by rfl, by rfl, by rfl⟩
theorem trip_may : defB trip tripL = true := by rfl
theorem dg_one (n : Int) (h : n.toNat < 10) : dg n = ⟨#[UInt8.ofNat (48 + n.toNat)]⟩ := by unfold dg; rw [Lib.decDigits_one h]
theorem dg_20 : dg 20 = ⟨#[50, 48]⟩ := by unfold dg; rw [show (20 : Int).toNat = 20 from rfl, Lib.decDigits_two (by omega) (by omega)]; rfl
theorem trip_show : shE trip tripL = ⟨#[115, 97, 103, 97, 32, 116, 114, 105, 112, 32, 123, 10, 32, 32, 100, 101, 98, 105, 116, 32, 99, 97, 115, 104, 32, 53, 32, 116, 114, 105, 101, 115, 32, 51, 59, 10, 32, 32, 97, 115, 107, 32, 50, 32, 104, 111, 116, 101, 108, 32, 119, 97, 105, 116, 32, 50, 48, 59, 10, 125, 10]⟩ := by
  have e : shT trip tripL = [115, 97, 103, 97, 32, 116, 114, 105, 112, 32, 123, 10, 32, 32, 100, 101, 98, 105, 116, 32, 99, 97, 115, 104, 32, 53, 32, 116, 114, 105, 101, 115, 32, 51, 59, 10, 32, 32, 97, 115, 107, 32, 50, 32, 104, 111, 116, 101, 108, 32, 119, 97, 105, 116, 32, 50, 48, 59, 10, 125, 10] := by
    unfold shT tripL
    simp only [List.flatMap_cons, List.flatMap_nil]
    unfold stT stW
    rw [if_neg (show ¬ Df.askB ⟨1, ⟨#[99, 97, 115, 104]⟩, 5, 0, ⟨#[]⟩, 3, 0⟩ = true by decide), if_pos (show Df.askB ⟨0, ⟨#[]⟩, 0, 2, ⟨#[104, 111, 116, 101, 108]⟩, 0, 20⟩ = true by decide)]
    simp only
    rw [dg_one 5 (by decide), dg_one 3 (by decide), dg_one 2 (by decide), dg_20]
    rfl
  unfold shE
  rw [if_pos trip_may, e]
theorem trip_in : ∀ s ∈ tripL, inS s := by
  intro s hs
  simp only [tripL, List.mem_cons, List.not_mem_nil, or_false] at hs
  rcases hs with rfl | rfl <;> exact ⟨by decide, by decide, by unfold inI; decide, by unfold inI; decide, by unfold inI; decide, by unfold inI; decide, by unfold inI; decide⟩

set_option maxHeartbeats 8000000 in
set_option maxRecDepth 100000 in
theorem awake_any (w : World) (he : Env w) : Calls Tryd.prog 9 #[] w fun e w' => e = .returned (.bool true) ∧ Gr w w' := by
  have H1 : Hid (∀ w', Calls Tryd.prog 19 #[.string ⟨#[115, 97, 103, 97, 32, 116, 114, 105, 112, 32, 123, 32, 100, 101, 98, 105, 116, 32, 99, 97, 115, 104, 32, 53, 32, 116, 114, 105, 101, 115, 32, 51, 59, 32, 97, 115, 107, 32, 50, 32, 104, 111, 116, 101, 108, 59, 32, 125]⟩] w' fun e w2 => TxR w' trip tripL 0 0 e w2) := by
    intro w'
    have := dText_any ⟨#[115, 97, 103, 97, 32, 116, 114, 105, 112, 32, 123, 32, 100, 101, 98, 105, 116, 32, 99, 97, 115, 104, 32, 53, 32, 116, 114, 105, 101, 115, 32, 51, 59, 32, 97, 115, 107, 32, 50, 32, 104, 111, 116, 101, 108, 59, 32, 125]⟩ w' (by decide)
    rw [show (⟨#[115, 97, 103, 97, 32, 116, 114, 105, 112, 32, 123, 32, 100, 101, 98, 105, 116, 32, 99, 97, 115, 104, 32, 53, 32, 116, 114, 105, 101, 115, 32, 51, 59, 32, 97, 115, 107, 32, 50, 32, 104, 111, 116, 101, 108, 59, 32, 125]⟩ : ByteArray).data.toList = [115, 97, 103, 97, 32, 116, 114, 105, 112, 32, 123, 32, 100, 101, 98, 105, 116, 32, 99, 97, 115, 104, 32, 53, 32, 116, 114, 105, 101, 115, 32, 51, 59, 32, 97, 115, 107, 32, 50, 32, 104, 111, 116, 101, 108, 59, 32, 125] from rfl, trip_text.1, trip_text.2.1, trip_text.2.2.1, trip_text.2.2.2] at this
    exact this
  have H2 : Hid (∀ w', Calls Tryd.prog 19 #[.string ⟨#[115, 97, 103, 97, 32, 116, 32, 123, 32, 100, 101, 98, 105, 116, 32, 99, 97, 115, 104, 59, 32, 125]⟩] w' fun e w2 => TxR w' ⟨#[]⟩ [] 81 19 e w2) := by
    intro w'
    have := dText_any ⟨#[115, 97, 103, 97, 32, 116, 32, 123, 32, 100, 101, 98, 105, 116, 32, 99, 97, 115, 104, 59, 32, 125]⟩ w' (by decide)
    rw [show (⟨#[115, 97, 103, 97, 32, 116, 32, 123, 32, 100, 101, 98, 105, 116, 32, 99, 97, 115, 104, 59, 32, 125]⟩ : ByteArray).data.toList = [115, 97, 103, 97, 32, 116, 32, 123, 32, 100, 101, 98, 105, 116, 32, 99, 97, 115, 104, 59, 32, 125] from rfl, t_text.1, t_text.2.1, t_text.2.2.1, t_text.2.2.2] at this
    exact this
  have H3 : Hid (∀ (a : Option Addr) (c : Nat) (w' : World), Gr w w' → StpsAt w' a tripL → Calls Tryd.prog 10 #[.agg #[.string trip, .slice a 2 c]] w' fun e w2 => e = .returned (.tuple #[.string ⟨#[115, 97, 103, 97, 32, 116, 114, 105, 112, 32, 123, 10, 32, 32, 100, 101, 98, 105, 116, 32, 99, 97, 115, 104, 32, 53, 32, 116, 114, 105, 101, 115, 32, 51, 59, 10, 32, 32, 97, 115, 107, 32, 50, 32, 104, 111, 116, 101, 108, 32, 119, 97, 105, 116, 32, 50, 48, 59, 10, 125, 10]⟩, .int .i64 0]) ∧ Gr w' w2) := by
    intro a c w' g h
    have := dShow_any trip tripL a c w' h (by decide) (by decide) trip_in (he.gr g)
    rw [trip_show, Df.ch_yes trip_may] at this
    exact this
  have H4 : Hid (∀ w', Calls Tryd.prog 12 #[.agg #[.string ⟨#[]⟩, .slice none 0 0]] w' fun e w2 => e = .returned (.int .i64 90) ∧ Gr w' w2) := fun w' => dCheck_any ⟨#[]⟩ [] none 0 w' RowAt.nil (by decide) (by decide) (by simp)
  clear he
  unfold trip at *
  go_enter Tryd.func9, Tryd.ntmps9
  go_wp2_with fail
  refine (H1.out _).mono ?_
  rintro e w1 ⟨a, c, rfl, hst, hlc, hfr, hg1⟩
  have HG1 : Hid (Gr w w1) := hg1
  have HS1 := Lib.hid hst
  have HD1 := Lib.hid ((TwoAt.new w1 (.string ⟨#[116, 114, 105, 112]⟩) (.slice a 2 c) 24 _ rfl).gr (Gr.refl _).alloc (w' := (w1.alloc (.cells #[.string ⟨#[116, 114, 105, 112]⟩, .slice a 2 c] 24)).alloc (.cells #[.int .i64 0, .int .i64 0] 37)))
  have HF1 := Lib.hid (TwoAt.new (w1.alloc (.cells #[.string ⟨#[116, 114, 105, 112]⟩, .slice a 2 c] 24)) (.int .i64 0) (.int .i64 0) 37 (w1.heap.size + 1) (by simp))
  clear hst hlc hfr hg1
  go_wp2_with fail
  refine (H2.out _).mono ?_
  rintro e w2 ⟨a2, c2, rfl, hst, hlc, hfr, hg2⟩
  have HG2 : Hid (Gr w w2) := HG1.out.alloc.alloc.trans hg2
  have HS2 := Lib.hid ((HS1.out.alloc.alloc).gr hg2)
  have HD2 := Lib.hid (HD1.out.gr hg2)
  have HF2 := Lib.hid (HF1.out.gr hg2)
  have HE2 := Lib.hid (TwoAt.new (w2.alloc (.cells #[.string ⟨#[]⟩, .slice a2 0 c2] 24)) (.int .i64 81) (.int .i64 19) 37 (w2.heap.size + 1) (by simp))
  obtain ⟨d0, d1, _, _, dl⟩ := HD2.out
  clear hst hlc hfr hg2 HD1 HF1 HS1
  go_wp2_with fail
  refine (H3.out a c _ HG2.out.alloc.alloc HS2.out.alloc.alloc).mono ?_
  rintro e w3 ⟨rfl, hg3⟩
  have HG3 : Hid (Gr w w3) := HG2.out.alloc.alloc.trans hg3
  obtain ⟨x0, x1, _, _, xl⟩ := (HD2.out.gr ((Gr.refl _).alloc.alloc)).gr hg3
  obtain ⟨y0, y1, _, _, yl⟩ := (HF2.out.gr ((Gr.refl _).alloc.alloc)).gr hg3
  obtain ⟨z0, z1, _, _, zl⟩ := HE2.out.gr hg3
  obtain ⟨b, off, rfl, hb, s0, s1, s2, s3, s4, s5, s6⟩ := StpsAt.at (HS2.out.alloc.alloc.gr hg3) 1 (by decide)
  have t0 : w3.cell? ⟨b, off + 1 * 7, none⟩ = some (.int .i64 0) := s0
  have t1 : w3.cell? ⟨b, off + 1 * 7 + 1, none⟩ = some (.string ⟨#[]⟩) := s1
  have t2 : w3.cell? ⟨b, off + 1 * 7 + 2, none⟩ = some (.int .i64 0) := s2
  have t3 : w3.cell? ⟨b, off + 1 * 7 + 3, none⟩ = some (.int .i64 2) := s3
  have t4 : w3.cell? ⟨b, off + 1 * 7 + 4, none⟩ = some (.string ⟨#[104, 111, 116, 101, 108]⟩) := s4
  have t5 : w3.cell? ⟨b, off + 1 * 7 + 5, none⟩ = some (.int .i64 0) := s5
  have t6 : w3.cell? ⟨b, off + 1 * 7 + 6, none⟩ = some (.int .i64 20) := s6
  clear s0 s1 s2 s3 s4 s5 s6 hg3 d0 d1 dl
  go_wp2_with fail
  refine (H4.out _).mono ?_
  rintro e w4 ⟨rfl, hg4⟩
  have HG4 : Hid (Gr w w4) := HG3.out.trans hg4
  clear hg4
  go_wp2
  go_ret
  exact ⟨rfl, HG4.out⟩
end Go.Proofs.YtdliljijgokpjaaDoor
