/- awake: some answers that the document fixes. -/
import Derived.Test.YtmidlcipbpchgaaDoorParseP
import Derived.Test.YtmidlcipbpchgaaDoorChiP
import Derived.Test.YtmidlcipbpchgaaDoorCmpQ
import Derived.Test.YtmidlcipbpchgaaDoorUndP
import Derived.Test.YtmidlcipbpchgaaDoorOrgP
namespace Go.Proofs.YtmidlcipbpchgaaDoor
open Go.RowKit

theorem hops_lit2 (w : World) (a b c d : Int) (t : TypeId) : HopsAt (w.alloc (.cells #[.int .i64 a, .int .i64 b, .int .i64 c, .int .i64 d] t)) (some ⟨w.heap.size, 0, none⟩) [(a, b), (c, d)] := by
  intro j hj
  match j, hj with
  | 0, _ => exact ⟨_, _, rfl, by simp, by simp, by simp⟩
  | 1, _ => exact ⟨_, _, rfl, by simp, by simp, by simp⟩
theorem tops_lit1 (w : World) (r n : Int) (L : List (Int × Int)) (ad : Option Addr) (cap : Nat) (t : TypeId) (g : Nat) (hg : g = w.heap.size) (h : HopsAt w ad L) (hl : L.length ≤ 9223372036854775807) :
    TopsAt (w.alloc (.cells #[.int .i64 r, .int .i64 n, .slice ad L.length cap] t)) (some ⟨g, 0, none⟩) [⟨r, n, L, ad, cap⟩] := by
  subst hg
  intro j hj
  obtain rfl : j = 0 := by simpa using hj
  exact ⟨_, _, rfl, by simp, by simp, by simp, by simp, h.alloc, hl⟩

theorem dig1 (n : Nat) (h : n < 10) : Lib.decDigits n = [UInt8.ofNat (48 + n)] := by rw [Lib.decDigits, dif_pos h]
theorem show_a : Idn.showT 0 7 [(2, 3), (0, 5)] = [48, 46, 55, 47, 50, 64, 51, 47, 48, 64, 53] := by
  simp [Idn.showT, Idn.hopT, dig1]
theorem show_b : Idn.showT 0 7 [(2, 3)] = [48, 46, 55, 47, 50, 64, 51] := by
  simp [Idn.showT, Idn.hopT, dig1]
theorem read_b : readR [48, 46, 55, 47, 50, 64, 51] = (0, 7) ∧ readL [48, 46, 55, 47, 50, 64, 51] = [(2, 3)] := by
  constructor <;> rfl
theorem par_b : parB [48, 46, 55, 47, 50, 64, 51] = true := by
  unfold parB
  rw [read_b.1, read_b.2, show_b]
  decide

set_option maxHeartbeats 8000000 in
set_option maxRecDepth 100000 in
theorem awake_any (w : World) (he : Env w) : Calls Tryd.prog 16 #[] w fun e w' => e = .returned (.bool true) ∧ Gr w w' := by
  have HS : Hid (∀ (w' : World) (h : Nat), Gr w w' → HopsAt w' (some ⟨h, 0, none⟩) [(2, 3), (0, 5)] → Calls Tryd.prog 27 #[.agg #[.int .i64 0, .int .i64 7, .slice (some ⟨h, 0, none⟩) 2 2]] w' fun e w2 => e = .returned (.tuple #[.string ⟨#[48, 46, 55, 47, 50, 64, 51, 47, 48, 64, 53]⟩, .int .i64 0]) ∧ Gr w' w2) := by
    intro w' h g hh
    refine (show_any 0 7 [(2, 3), (0, 5)] _ 2 w' hh (by simp) (he.gr g)).mono ?_
    rintro e w2 ⟨⟨_, rfl⟩ | ⟨h, _⟩, hg⟩
    · rw [show_a]; exact ⟨rfl, hg⟩
    · exact absurd h (by decide)
  have HP : Hid (∀ (w' : World) (h : Nat), HopsAt w' (some ⟨h, 0, none⟩) [(2, 3), (0, 5)] → Calls Tryd.prog 18 #[.agg #[.int .i64 0, .int .i64 7, .slice (some ⟨h, 0, none⟩) 2 2]] w' fun e w2 => ∃ ad2 cap2, e = .returned (.tuple #[.agg #[.int .i64 0, .int .i64 7, .slice ad2 1 cap2], .int .i64 0, .bool true]) ∧ HopsAt w2 ad2 [(2, 3)] ∧ Gr w' w2) := by
    intro w' h hh
    refine (parent_yes 0 7 0 5 [(2, 3)] h 0 2 w' hh (by simp) (by decide) (by simp)).mono ?_
    rintro e w2 ⟨ad2, cap2, rfl, _, h1, h2⟩
    exact ⟨ad2, cap2, rfl, h1, h2⟩
  have HC : Hid (∀ (w' : World) (h : Nat), HopsAt w' (some ⟨h, 0, none⟩) [(2, 3), (0, 5)] → Calls Tryd.prog 20 #[.agg #[.int .i64 0, .int .i64 7, .slice (some ⟨h, 0, none⟩) 2 2], .int .i64 0, .int .i64 3] w' fun e w2 => e = .returned (.tuple #[.agg #[.int .i64 0, .int .i64 0, .slice none 0 0], .int .i64 30]) ∧ Gr w' w2) := by
    intro w' h hh
    refine (child_any 0 7 0 3 [(2, 3), (0, 5)] _ 2 w' hh (fun e => by cases e) (by simp)).mono ?_
    rintro e w2 ⟨⟨h, _⟩ | ⟨_, rfl⟩, hg⟩
    · exact absurd h (by decide)
    · exact ⟨rfl, hg⟩
  have HQ : Hid (∀ w', Gr w w' → Calls Tryd.prog 29 #[.string ⟨#[48, 46, 55, 47, 50, 64, 51]⟩] w' fun e w2 => ∃ ad2 cap2, e = .returned (.tuple #[.agg #[.int .i64 0, .int .i64 7, .slice ad2 1 cap2], .int .i64 0]) ∧ HopsAt w2 ad2 [(2, 3)] ∧ Gr w' w2) := by
    intro w' g
    refine (parse_any ⟨#[48, 46, 55, 47, 50, 64, 51]⟩ w' (by decide) (he.gr g)).mono ?_
    rintro e w2 ⟨⟨_, ad2, cap2, rfl, _, h⟩ | ⟨h, _⟩, hg⟩
    · have e1 : readR (⟨#[48, 46, 55, 47, 50, 64, 51]⟩ : ByteArray).data.toList = (0, 7) := read_b.1
      have e2 : readL (⟨#[48, 46, 55, 47, 50, 64, 51]⟩ : ByteArray).data.toList = [(2, 3)] := read_b.2
      rw [e1, e2]
      rw [e2] at h
      exact ⟨ad2, cap2, rfl, h, hg⟩
    · exact absurd (h.symm.trans par_b) (by simp)
  have HM0 : Hid (∀ (w' : World) (a b : Option Addr) (c d : Nat), HopsAt w' a [(2, 3)] → HopsAt w' b [(2, 3)] → Calls Tryd.prog 23 #[.agg #[.int .i64 0, .int .i64 7, .slice a 1 c], .agg #[.int .i64 0, .int .i64 7, .slice b 1 d]] w' fun e w2 => e = .returned (.int .i64 0) ∧ Gr w' w2) := fun w' a b c d ha hb => cmp_any 0 7 [(2, 3)] a c 0 7 [(2, 3)] b d w' ha hb (by simp) (by simp)
  have HM1 : Hid (∀ (w' : World) (a : Option Addr) (h c : Nat), HopsAt w' a [(2, 3)] → HopsAt w' (some ⟨h, 0, none⟩) [(2, 3), (0, 5)] → Calls Tryd.prog 23 #[.agg #[.int .i64 0, .int .i64 7, .slice a 1 c], .agg #[.int .i64 0, .int .i64 7, .slice (some ⟨h, 0, none⟩) 2 2]] w' fun e w2 => e = .returned (.int .i64 (-1)) ∧ Gr w' w2) := fun w' a h c ha hb => cmp_any 0 7 [(2, 3)] a c 0 7 [(2, 3), (0, 5)] _ 2 w' ha hb (by simp) (by simp)
  have HO : Hid (∀ (w' : World) (h : Nat), HopsAt w' (some ⟨h, 0, none⟩) [(2, 3), (0, 5)] → Calls Tryd.prog 11 #[.agg #[.int .i64 0, .int .i64 7, .slice (some ⟨h, 0, none⟩) 2 2]] w' fun e w2 => e = .returned (.int .i64 5) ∧ Gr w' w2) := fun w' h hh => org_any 0 7 [(2, 3), (0, 5)] _ 2 w' hh (by simp)
  have HU : Hid (∀ (w' : World) (h g : Nat) (a : Option Addr) (c : Nat), HopsAt w' (some ⟨h, 0, none⟩) [(2, 3), (0, 5)] → TopsAt w' (some ⟨g, 0, none⟩) [⟨0, 7, [(2, 3)], a, c⟩] → Calls Tryd.prog 25 #[.agg #[.int .i64 0, .int .i64 7, .slice (some ⟨h, 0, none⟩) 2 2], .slice (some ⟨g, 0, none⟩) 1 1] w' fun e w2 => e = .returned (.bool true) ∧ Gr w' w2) := fun w' h g a c hh ht => under_any 0 7 [(2, 3), (0, 5)] _ 2 [⟨0, 7, [(2, 3)], a, c⟩] _ 1 w' hh ht (by simp) (by simp)
  clear he
  go_enter Tryd.func16, Tryd.ntmps16
  go_wp2_with fail
  have hh0 := hops_lit2 w 2 3 0 5 55
  have hb0 := BoxAt.new (w.alloc (.cells #[.int .i64 2, .int .i64 3, .int .i64 0, .int .i64 5] 55)) (.int .i64 0) (.int .i64 7) (.slice (some ⟨w.heap.size, 0, none⟩) 2 2) 24 (w.heap.size + 1) (by simp)
  refine (HS.out _ _ ?_ (hh0.alloc)).mono ?_
  · exact (by repeat (first | exact Gr.refl _ | refine Gr.alloc ?_ | refine Gr.drew ?_ | refine Gr.trans ?_ (by assumption)))
  rintro e1 w1 ⟨rfl, hg1⟩
  have H1 : Hid (HopsAt w1 (some ⟨w.heap.size, 0, none⟩) [(2, 3), (0, 5)]) := (hh0.alloc).gr hg1
  have B1 := hb0.gr hg1
  have G1 : Hid (Gr w w1) := (by repeat (first | exact Gr.refl _ | refine Gr.alloc ?_ | refine Gr.drew ?_ | refine Gr.trans ?_ (by assumption)))
  clear hh0 hb0 hg1 HS
  obtain ⟨a0, a1, a2, _, _, _, alt⟩ := id B1
  go_wp2_with fail
  refine (HP.out _ _ H1.out).mono ?_
  rintro e2 w2 ⟨ad2, cap2, rfl, hp2, hg2⟩
  have H2 : Hid (HopsAt w2 (some ⟨w.heap.size, 0, none⟩) [(2, 3), (0, 5)]) := H1.out.gr hg2
  have P2 : Hid (HopsAt w2 ad2 [(2, 3)]) := hp2
  have B2 := B1.gr hg2
  have G2 : Hid (Gr w w2) := G1.out.trans hg2
  clear a0 a1 a2 alt B1 H1 G1 hg2 hp2 HP
  obtain ⟨a0, a1, a2, _, _, _, alt⟩ := id B2
  go_wp2_with fail
  refine (HC.out _ _ H2.out.alloc).mono ?_
  rintro e3 w3 ⟨rfl, hg3⟩
  have H3 : Hid (HopsAt w3 (some ⟨w.heap.size, 0, none⟩) [(2, 3), (0, 5)]) := H2.out.alloc.gr hg3
  have P3 : Hid (HopsAt w3 ad2 [(2, 3)]) := P2.out.alloc.gr hg3
  have B3 := (B2.gr (Gr.refl _).alloc).gr hg3
  have D3 := (BoxAt.new w2 (.int .i64 0) (.int .i64 7) (.slice ad2 1 cap2) 24 _ rfl).gr hg3
  have G3 : Hid (Gr w w3) := G2.out.alloc.trans hg3
  clear a0 a1 a2 alt B2 H2 P2 G2 hg3 HC
  go_wp2_with fail
  refine (HQ.out _ ?_).mono ?_
  · exact G3.out.alloc
  rintro e4 w4 ⟨ad4, cap4, rfl, hq4, hg4⟩
  have H4 : Hid (HopsAt (w4.alloc (.cells #[.int .i64 0, .int .i64 7, .slice ad4 1 cap4] 24)) (some ⟨w.heap.size, 0, none⟩) [(2, 3), (0, 5)]) := (H3.out.alloc.gr hg4).alloc
  have P4 : Hid (HopsAt (w4.alloc (.cells #[.int .i64 0, .int .i64 7, .slice ad4 1 cap4] 24)) ad2 [(2, 3)]) := (P3.out.alloc.gr hg4).alloc
  have Q4 : Hid (HopsAt (w4.alloc (.cells #[.int .i64 0, .int .i64 7, .slice ad4 1 cap4] 24)) ad4 [(2, 3)]) := hq4.alloc
  have B4 := (B3.gr (Gr.refl _).alloc).gr hg4
  have D4 := (D3.gr (Gr.refl _).alloc).gr hg4
  have G4 : Hid (Gr w (w4.alloc (.cells #[.int .i64 0, .int .i64 7, .slice ad4 1 cap4] 24))) := (G3.out.alloc.trans hg4).alloc
  clear B3 D3 H3 P3 G3 hg4 hq4 HQ
  obtain ⟨a0, a1, a2, _, _, _, alt⟩ := id B4
  obtain ⟨d0, d1, d2, _, _, _, dlt⟩ := id D4
  go_wp2_with fail
  refine (HM0.out _ _ _ _ _ P4.out Q4.out).mono ?_
  rintro e5 w5 ⟨rfl, hg5⟩
  have E5 := (BoxAt.new w4 (.int .i64 0) (.int .i64 7) (.slice ad4 1 cap4) 24 _ rfl).gr hg5
  have B5 := (B4.gr (Gr.refl _).alloc).gr hg5
  have D5 := (D4.gr (Gr.refl _).alloc).gr hg5
  have H5 : Hid (HopsAt w5 (some ⟨w.heap.size, 0, none⟩) [(2, 3), (0, 5)]) := H4.out.gr hg5
  have P5 : Hid (HopsAt w5 ad2 [(2, 3)]) := P4.out.gr hg5
  have Q5 : Hid (HopsAt w5 ad4 [(2, 3)]) := Q4.out.gr hg5
  have G5 : Hid (Gr w w5) := G4.out.trans hg5
  clear a0 a1 a2 alt d0 d1 d2 dlt B4 D4 H4 P4 Q4 G4 hg5 HM0
  obtain ⟨a0, a1, a2, _, _, _, alt⟩ := id B5
  go_wp2_with fail
  refine (HO.out _ _ H5.out).mono ?_
  rintro e6 w6 ⟨rfl, hg6⟩
  have E6 := E5.gr hg6
  have B6 := B5.gr hg6
  have D6 := D5.gr hg6
  have H6 : Hid (HopsAt w6 (some ⟨w.heap.size, 0, none⟩) [(2, 3), (0, 5)]) := H5.out.gr hg6
  have P6 : Hid (HopsAt w6 ad2 [(2, 3)]) := P5.out.gr hg6
  have Q6 : Hid (HopsAt w6 ad4 [(2, 3)]) := Q5.out.gr hg6
  have G6 : Hid (Gr w w6) := G5.out.trans hg6
  clear a0 a1 a2 alt B5 D5 E5 H5 P5 Q5 G5 hg6 HO
  obtain ⟨a0, a1, a2, _, _, _, alt⟩ := id B6
  obtain ⟨d0, d1, d2, _, _, _, dlt⟩ := id E6
  go_wp2_with fail
  refine (HU.out _ _ _ ad4 cap4 H6.out.alloc (tops_lit1 w6 0 7 [(2, 3)] ad4 cap4 _ _ rfl Q6.out (by simp))).mono ?_
  rintro e7 w7 ⟨rfl, hg7⟩
  obtain ⟨x0, x1, x2, _, _, _, xlt⟩ := (B6.gr (Gr.refl _).alloc).gr hg7
  obtain ⟨z0, z1, z2, _, _, _, zlt⟩ := (D6.gr (Gr.refl _).alloc).gr hg7
  have H7 : Hid (HopsAt w7 (some ⟨w.heap.size, 0, none⟩) [(2, 3), (0, 5)]) := H6.out.alloc.gr hg7
  have P7 : Hid (HopsAt w7 ad2 [(2, 3)]) := P6.out.alloc.gr hg7
  have G7 : Hid (Gr w w7) := G6.out.alloc.trans hg7
  clear a0 a1 a2 alt d0 d1 d2 dlt B6 D6 E6 H6 P6 Q6 G6 hg7 HU
  go_wp2_with fail
  refine (HM1.out _ _ _ _ P7.out H7.out).mono ?_
  rintro e8 w8 ⟨rfl, hg8⟩
  go_wp2
  go_ret
  exact ⟨rfl, G7.out.trans hg8⟩
end Go.Proofs.YtmidlcipbpchgaaDoor
