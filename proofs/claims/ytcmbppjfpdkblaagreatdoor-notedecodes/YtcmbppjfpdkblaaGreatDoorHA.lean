/- Parts of these proofs, laid together. -/
import Derived.Test.YtcmbppjfpdkblaaGreatDoorGS
import Derived.Test.YtcmbppjfpdkblaaGreatDoorGT
import Derived.Test.YtcmbppjfpdkblaaGreatDoorGU
import Derived.Test.YtcmbppjfpdkblaaGreatDoorGO
import Derived.Test.YtcmbppjfpdkblaaGreatDoorGJ
/- few, and awake: some answers that the document fixes. -/
namespace Go.Proofs.YtcmbppjfpdkblaaGreatDoor
open Go.RowKit

/- all tables that the laws' calls read -/
structure EnvN (w : World) : Prop where
  env : Env w
  tab : Tab w
  wds : Words w
theorem EnvN.gr {w w' : World} (h : EnvN w) (g : Gr w w') : EnvN w' := ⟨h.env.gr g, h.tab.gr g, h.wds.gr g⟩

set_option maxHeartbeats 400000 in
theorem few_any (k r n : Int) (L : List (Int × Int)) (d : ByteArray) (y : Int) (ad : Option Addr) (cap : Nat) (w : World) :
    Calls Tryz.prog 8 #[.agg #[.int .i64 k, .int .i64 r, .int .i64 n, .slice ad L.length cap, .string d, .int .i64 y]] w fun e w' => e = .returned (.bool (decide (L.length ≤ 200) && decide (d.size ≤ 10000))) ∧ Gr w w' := by
  by_cases h1 : L.length ≤ 200
  · have h1' : decide ((L.length : Int) ≤ 200) = true := by simp; omega
    rw [decide_eq_true h1, Bool.true_and]
    have h2' : decide ((d.size : Int) ≤ 10000) = decide (d.size ≤ 10000) := by
      by_cases h2 : d.size ≤ 10000
      · rw [decide_eq_true h2, decide_eq_true (by omega)]
      · rw [decide_eq_false h2, decide_eq_false (by omega)]
    go_enter Tryz.func8, Tryz.ntmps8
    go_wp2
    go_ret
    exact ⟨rfl, (by repeat (first | exact Gr.refl _ | refine Gr.alloc ?_ | refine Gr.drew ?_ | refine Gr.trans ?_ (by assumption)))⟩
  · have h1' : decide ((L.length : Int) ≤ 200) = false := by rw [decide_eq_false_iff_not]; omega
    rw [decide_eq_false h1, Bool.false_and]
    go_enter Tryz.func8, Tryz.ntmps8
    go_wp2
    go_ret
    exact ⟨rfl, (by repeat (first | exact Gr.refl _ | refine Gr.alloc ?_ | refine Gr.drew ?_ | refine Gr.trans ?_ (by assumption)))⟩

def hotelX : Nt := ⟨1, 0, 7, [(2, 3)], ⟨#[104, 111, 116, 101, 108]⟩, 0⟩
def hotelF : Fm := ⟨0, 3, 1, 4, 0, 0, hotelX⟩
theorem hotel_may : Nt.ntB hotelX = true := by decide
theorem hotel_ends : Nt.ends1 hotelX = 0 ∧ Nt.ends2 hotelX = 3 := by decide
theorem hotel_frame : Nt.frB hotelF = true := by decide
theorem digN (n : Nat) (h : n < 10) : Lib.decDigits n = [UInt8.ofNat (48 + n)] := by rw [Lib.decDigits, dif_pos h]
theorem hotel_show : Nt.shL hotelX = [111, 102, 102, 101, 114, 32, 48, 46, 55, 47, 50, 64, 51, 32, 104, 111, 116, 101, 108] := by
  unfold Nt.shL
  rw [if_pos hotel_may]
  simp [hotelX, Nt.wordL, Idn.showT, Idn.hopT, digN]
theorem x_dec : Nt.dcE [120] = 20 ∧ Nt.dcF [120] = Nt.zeroF := by
  have h : Sl.openE [120] 0 1 = ([], 0, 20) := by decide
  unfold Nt.dcE Nt.dcF
  rw [h]
  constructor
  · rfl
  · rw [if_neg (by simp)]
theorem zero_may : Nt.ntB Nt.zeroN = false := by decide

set_option maxHeartbeats 8000000 in
set_option maxRecDepth 100000 in
theorem awake_any (w : World) (he : EnvN w) : Calls Tryz.prog 9 #[] w fun e w' => e = .returned (.bool true) ∧ Gr w w' := by
  have HS : Hid (∀ (w' : World) (h : Nat), Gr w w' → HopsAt w' (some ⟨h, 0, none⟩) [(2, 3)] → Calls Tryz.prog 12 #[.agg #[.int .i64 1, .int .i64 0, .int .i64 7, .slice (some ⟨h, 0, none⟩) 1 1, .string ⟨#[104, 111, 116, 101, 108]⟩, .int .i64 0]] w' fun e w2 => e = .returned (.tuple #[.string ⟨#[111, 102, 102, 101, 114, 32, 48, 46, 55, 47, 50, 64, 51, 32, 104, 111, 116, 101, 108]⟩, .int .i64 0]) ∧ Gr w' w2) := by
    intro w' h g hh
    have := nShow_any 1 0 7 [(2, 3)] ⟨#[104, 111, 116, 101, 108]⟩ 0 (some ⟨h, 0, none⟩) 1 w' hh (by simp) (by decide) (he.wds.gr g) (he.env.gr g)
    have e1 : Nt.shL (⟨1, 0, 7, [(2, 3)], ⟨#[104, 111, 116, 101, 108]⟩, 0⟩ : Nt) = [111, 102, 102, 101, 114, 32, 48, 46, 55, 47, 50, 64, 51, 32, 104, 111, 116, 101, 108] := hotel_show
    have e2 : Nt.ckE (⟨1, 0, 7, [(2, 3)], ⟨#[104, 111, 116, 101, 108]⟩, 0⟩ : Nt) = 0 := if_pos hotel_may
    rw [e1, e2] at this
    exact this
  have HE : Hid (∀ (w' : World) (h : Nat), Gr w w' → HopsAt w' (some ⟨h, 0, none⟩) [(2, 3)] → Calls Tryz.prog 16 #[.agg #[.int .i64 0, .int .i64 3, .int .i64 1, .int .i64 4, .int .i64 0, .int .i64 0, .int .i64 1, .int .i64 0, .int .i64 7, .slice (some ⟨h, 0, none⟩) 1 1, .string ⟨#[104, 111, 116, 101, 108]⟩, .int .i64 0]] w' fun e w2 => e = .returned (.tuple #[.string ⟨(Nt.encL hotelF).toArray⟩, .int .i64 0]) ∧ Gr w' w2) := by
    intro w' h g hh
    have := nEncode_any 0 3 1 4 0 0 1 0 7 [(2, 3)] ⟨#[104, 111, 116, 101, 108]⟩ 0 (some ⟨h, 0, none⟩) 1 w' hh (by simp) (by decide) (by simp) (he.tab.gr g) (he.env.gr g)
    have e2 : Nt.frE (⟨0, 3, 1, 4, 0, 0, ⟨1, 0, 7, [(2, 3)], ⟨#[104, 111, 116, 101, 108]⟩, 0⟩⟩ : Fm) = 0 := if_pos hotel_frame
    rw [e2] at this
    exact this
  have HD : Hid (∀ w', Gr w w' → Calls Tryz.prog 20 #[.string ⟨(Nt.encL hotelF).toArray⟩] w' fun e w2 => ∃ ad cap, e = .returned (.tuple #[.agg #[.int .i64 0, .int .i64 3, .int .i64 1, .int .i64 4, .int .i64 0, .int .i64 0, .int .i64 1, .int .i64 0, .int .i64 7, .slice ad 1 cap, .string ⟨#[104, 111, 116, 101, 108]⟩, .int .i64 0], .int .i64 0]) ∧ HopsAt w2 ad [(2, 3)] ∧ Gr w' w2) := by
    intro w' g
    have hl := Nt.bd_len _ hotel_frame
    have hfl := Sl.frame_len 1 (Nt.bd hotelF)
    have hnl := Pk.num_len (Nt.bd hotelF).length
    have hel : (Nt.encL hotelF).length ≤ 400 := by
      unfold Nt.encL; rw [if_pos hotel_frame, hfl]; omega
    refine (nDecode_any ⟨(Nt.encL hotelF).toArray⟩ w' (he.tab.gr g) (he.env.gr g) (by simp [ByteArray.size]; omega)).mono ?_
    rintro e w2 ⟨ad, cap, h1, _, h3, _, h5⟩
    have e1 : Nt.dcF (⟨(Nt.encL hotelF).toArray⟩ : ByteArray).data.toList = hotelF := (Nt.dec_enc hotelF hotel_frame).1
    have e2 : Nt.dcE (⟨(Nt.encL hotelF).toArray⟩ : ByteArray).data.toList = 0 := (Nt.dec_enc hotelF hotel_frame).2
    rw [e1, e2] at h1
    rw [e1] at h3
    exact ⟨ad, cap, h1, h3, h5⟩
  have HN : Hid (∀ (w' : World) (h : Nat), HopsAt w' (some ⟨h, 0, none⟩) [(2, 3)] → Calls Tryz.prog 10 #[.agg #[.int .i64 1, .int .i64 0, .int .i64 7, .slice (some ⟨h, 0, none⟩) 1 1, .string ⟨#[104, 111, 116, 101, 108]⟩, .int .i64 0]] w' fun e w2 => e = .returned (.tuple #[.int .i64 0, .int .i64 3]) ∧ Gr w' w2) := by
    intro w' h hh
    have := nEnds_any 1 0 7 [(2, 3)] ⟨#[104, 111, 116, 101, 108]⟩ 0 (some ⟨h, 0, none⟩) 1 w' hh (by simp) (by decide) (by simp)
    have e1 : Nt.ends1 (⟨1, 0, 7, [(2, 3)], ⟨#[104, 111, 116, 101, 108]⟩, 0⟩ : Nt) = 0 := hotel_ends.1
    have e2 : Nt.ends2 (⟨1, 0, 7, [(2, 3)], ⟨#[104, 111, 116, 101, 108]⟩, 0⟩ : Nt) = 3 := hotel_ends.2
    rw [e1, e2] at this
    exact this
  have HX : Hid (∀ w', Gr w w' → Calls Tryz.prog 20 #[.string ⟨#[120]⟩] w' fun e w2 => ∃ ad cap, e = .returned (.tuple #[.agg #[.int .i64 0, .int .i64 0, .int .i64 0, .int .i64 0, .int .i64 0, .int .i64 0, .int .i64 0, .int .i64 0, .int .i64 0, .slice ad 0 cap, .string ⟨#[]⟩, .int .i64 0], .int .i64 20]) ∧ Gr w' w2) := by
    intro w' g
    refine (nDecode_any ⟨#[120]⟩ w' (he.tab.gr g) (he.env.gr g) (by decide)).mono ?_
    rintro e w2 ⟨ad, cap, h1, _, _, _, h5⟩
    have e1 : Nt.dcF (⟨#[120]⟩ : ByteArray).data.toList = Nt.zeroF := x_dec.2
    have e2 : Nt.dcE (⟨#[120]⟩ : ByteArray).data.toList = 20 := x_dec.1
    rw [e1, e2] at h1
    exact ⟨ad, cap, h1, h5⟩
  have HQ : Hid (∀ (w' : World) (a b : Option Addr) (c d : Nat), HopsAt w' a [(2, 3)] → HopsAt w' b [(2, 3)] → Calls Tryz.prog 22 #[.agg #[.int .i64 0, .int .i64 3, .int .i64 1, .int .i64 4, .int .i64 0, .int .i64 0, .int .i64 1, .int .i64 0, .int .i64 7, .slice a 1 c, .string ⟨#[104, 111, 116, 101, 108]⟩, .int .i64 0], .agg #[.int .i64 0, .int .i64 3, .int .i64 1, .int .i64 4, .int .i64 0, .int .i64 0, .int .i64 1, .int .i64 0, .int .i64 7, .slice b 1 d, .string ⟨#[104, 111, 116, 101, 108]⟩, .int .i64 0]] w' fun e w2 => e = .returned (.bool true) ∧ Gr w' w2) := fun w' a b c d h1 h2 => rSame_any 0 3 1 4 0 0 1 0 7 [(2, 3)] ⟨#[104, 111, 116, 101, 108]⟩ 0 a b c d w' h1 h2 (by simp)
  have HC : Hid (∀ w', Calls Tryz.prog 14 #[.agg #[.int .i64 0, .int .i64 0, .int .i64 0, .slice none 0 0, .string ⟨#[]⟩, .int .i64 0]] w' fun e w2 => e = .returned (.int .i64 130) ∧ Gr w' w2) := by
    intro w'
    have := nCheck_any 0 0 0 [] ⟨#[]⟩ 0 none 0 w' HopsAt.nil (by simp) (by decide)
    have e1 : Nt.ckE (⟨0, 0, 0, [], ⟨#[]⟩, 0⟩ : Nt) = 130 := if_neg (by rw [show Nt.ntB (⟨0, 0, 0, [], ⟨#[]⟩, 0⟩ : Nt) = false from zero_may]; simp)
    rw [e1] at this
    exact this
  clear he
  generalize Nt.encL hotelF = EL at *
  go_enter Tryz.func9, Tryz.ntmps9
  go_wp2_with fail
  have hh0 := hops_lit1' w 2 3 56
  have N0 := Lib.hid (Cs.new (w.alloc (.cells #[.int .i64 2, .int .i64 3] 56)) [.int .i64 1, .int .i64 0, .int .i64 7, .slice (some ⟨w.heap.size, 0, none⟩) 1 1, .string ⟨#[104, 111, 116, 101, 108]⟩, .int .i64 0] 26 (w.heap.size + 1) (by simp))
  have hgw0 : Gr w ((w.alloc (.cells #[.int .i64 2, .int .i64 3] 56)).alloc (.cells #[.int .i64 1, .int .i64 0, .int .i64 7, .slice (some ⟨w.heap.size, 0, none⟩) 1 1, .string ⟨#[104, 111, 116, 101, 108]⟩, .int .i64 0] 26)) := (Gr.refl _).alloc.alloc
  refine (HS.out _ _ hgw0 hh0.alloc).mono ?_
  rintro e1 w1 ⟨rfl, hg1⟩
  have hh1 := Lib.hid (hh0.alloc.gr hg1)
  have N1 := Lib.hid (N0.out.gr hg1)
  have hgw1 : Gr w w1 := hgw0.trans hg1
  clear hh0 N0 hgw0 hg1
  have c0 := N1.out.at_ 0 _ rfl
  have c1 := N1.out.at_ 1 _ rfl
  have c2 := N1.out.at_ 2 _ rfl
  have c3 := N1.out.at_ 3 _ rfl
  have c4 := N1.out.at_ 4 _ rfl
  have c5 := N1.out.at_ 5 _ rfl
  have clt := N1.out.lt
  go_wp2_with fail
  have F1 := Lib.hid (Cs.new w1 [.int .i64 0, .int .i64 3, .int .i64 1, .int .i64 4, .int .i64 0, .int .i64 0, .int .i64 1, .int .i64 0, .int .i64 7, .slice (some ⟨w.heap.size, 0, none⟩) 1 1, .string ⟨#[104, 111, 116, 101, 108]⟩, .int .i64 0] 39 _ rfl)
  refine (HE.out _ _ hgw1.alloc hh1.out.alloc).mono ?_
  rintro e2 w2 ⟨rfl, hg2⟩
  have hh2 := Lib.hid (hh1.out.alloc.gr hg2)
  have N2 := Lib.hid (N1.out.alloc.gr hg2)
  have F2 := Lib.hid (F1.out.gr hg2)
  have hgw2 : Gr w w2 := hgw1.alloc.trans hg2
  clear hh1 N1 F1 hgw1 hg2
  clear c0 c1 c2 c3 c4 c5 clt
  go_wp2_with fail
  refine (HD.out _ hgw2).mono ?_
  rintro e3 w3 ⟨ad, cap, rfl, hc3, hg3⟩
  have hh3 := Lib.hid (hh2.out.gr hg3)
  have C3 := Lib.hid hc3
  have N3 := Lib.hid (N2.out.gr hg3)
  have F3 := Lib.hid (F2.out.gr hg3)
  have hgw3 : Gr w w3 := hgw2.trans hg3
  clear hh2 N2 F2 hgw2 hg3 hc3
  have c0 := N3.out.at_ 0 _ rfl
  have c1 := N3.out.at_ 1 _ rfl
  have c2 := N3.out.at_ 2 _ rfl
  have c3 := N3.out.at_ 3 _ rfl
  have c4 := N3.out.at_ 4 _ rfl
  have c5 := N3.out.at_ 5 _ rfl
  have clt := N3.out.lt
  have nlt3 := N3.out.lt
  go_wp2_with fail
  have P3 := Lib.hid (Cs.new w3 [.int .i64 0, .int .i64 3, .int .i64 1, .int .i64 4, .int .i64 0, .int .i64 0, .int .i64 1, .int .i64 0, .int .i64 7, .slice ad 1 cap, .string ⟨#[104, 111, 116, 101, 108]⟩, .int .i64 0] 39 _ rfl)
  refine (HN.out _ _ hh3.out.alloc).mono ?_
  rintro e4 w4 ⟨rfl, hg4⟩
  have hh4 := Lib.hid (hh3.out.alloc.gr hg4)
  have C4 := Lib.hid (C3.out.alloc.gr hg4)
  have F4 := Lib.hid (F3.out.alloc.gr hg4)
  have P4 := Lib.hid (P3.out.gr hg4)
  have hgw4 : Gr w w4 := hgw3.alloc.trans hg4
  clear hh3 C3 N3 F3 P3 hgw3 hg4 nlt3
  clear c0 c1 c2 c3 c4 c5 clt
  go_wp2_with fail
  refine (HX.out _ hgw4).mono ?_
  rintro e5 w5 ⟨ad5, cap5, rfl, hg5⟩
  have hh5 := Lib.hid ((hh4.out.gr hg5).alloc (ob := .cells #[.int .i64 0, .int .i64 0, .int .i64 0, .int .i64 0, .int .i64 0, .int .i64 0, .int .i64 0, .int .i64 0, .int .i64 0, .slice ad5 0 cap5, .string ⟨#[]⟩, .int .i64 0] 39))
  have C5 := Lib.hid ((C4.out.gr hg5).alloc (ob := .cells #[.int .i64 0, .int .i64 0, .int .i64 0, .int .i64 0, .int .i64 0, .int .i64 0, .int .i64 0, .int .i64 0, .int .i64 0, .slice ad5 0 cap5, .string ⟨#[]⟩, .int .i64 0] 39))
  have F5 := F4.out.gr hg5
  have P5 := P4.out.gr hg5
  have hgw5 : Gr w w5 := hgw4.trans hg5
  clear hh4 C4 F4 P4 hgw4 hg5
  have f0 := F5.at_ 0 _ rfl
  have f1 := F5.at_ 1 _ rfl
  have f2 := F5.at_ 2 _ rfl
  have f3 := F5.at_ 3 _ rfl
  have f4 := F5.at_ 4 _ rfl
  have f5 := F5.at_ 5 _ rfl
  have f6 := F5.at_ 6 _ rfl
  have f7 := F5.at_ 7 _ rfl
  have f8 := F5.at_ 8 _ rfl
  have f9 := F5.at_ 9 _ rfl
  have f10 := F5.at_ 10 _ rfl
  have f11 := F5.at_ 11 _ rfl
  have flt := F5.lt
  have p0 := P5.at_ 0 _ rfl
  have p1 := P5.at_ 1 _ rfl
  have p2 := P5.at_ 2 _ rfl
  have p3 := P5.at_ 3 _ rfl
  have p4 := P5.at_ 4 _ rfl
  have p5 := P5.at_ 5 _ rfl
  have p6 := P5.at_ 6 _ rfl
  have p7 := P5.at_ 7 _ rfl
  have p8 := P5.at_ 8 _ rfl
  have p9 := P5.at_ 9 _ rfl
  have p10 := P5.at_ 10 _ rfl
  have p11 := P5.at_ 11 _ rfl
  have plt := P5.lt
  clear F5 P5
  go_wp2_with fail
  refine (HQ.out _ _ _ _ _ C5.out hh5.out).mono ?_
  rintro e6 w6 ⟨rfl, hg6⟩
  have hgw6 : Gr w w6 := hgw5.alloc.trans hg6
  clear hg6 hgw5
  clear f0 f1 f2 f3 f4 f5 f6 f7 f8 f9 f10 f11 flt
  clear p0 p1 p2 p3 p4 p5 p6 p7 p8 p9 p10 p11 plt
  go_wp2_with fail
  refine (HC.out _).mono ?_
  rintro e7 w7 ⟨rfl, hg7⟩
  have hgw7 : Gr w w7 := hgw6.trans hg7
  go_wp2
  go_ret
  exact ⟨rfl, hgw7⟩
end Go.Proofs.YtcmbppjfpdkblaaGreatDoor
