/- For every input the law LedgerBalance answers true: whatever is called, each account has what it was opened with, and what is in effect on it. -/
import Derived.Test.YtgidkmipecfjhaaTLLBal24
import Derived.BigQuiet
namespace Go.Proofs.Ytgidkmipecfjhaa
open Go.RowKit
open Led (Acc Mk)
abbrev cashS : ByteArray := ⟨#[99, 97, 115, 104]⟩
abbrev keyS : ByteArray := ⟨#[107]⟩
theorem pos_one (s : ByteArray) : Led.pos [s] s = 0 := by unfold Led.pos; simp [Led.lt_irrefl]
def A1 : List Acc := [⟨cashS, 10, 0, 0, 0, 0, 0⟩]
def A2 : List Acc := [⟨cashS, 6, 0, 4, 0, 0, 0⟩]
def M1 : List Mk := [⟨keyS, 1, cashS, 4, 1⟩]
def M2 : List Mk := [⟨keyS, 1, cashS, 4, 2⟩]
theorem awk_open : openE [] [] cashS 10 = 0 := by decide +kernel
theorem awk_openA : openA [] cashS 10 = A1 := rfl
theorem atA1 : atA A1 cashS = ⟨cashS, 10, 0, 0, 0, 0, 0⟩ := by
  unfold atA; rw [show Led.nm A1 = [cashS] from rfl, pos_one]; rfl
theorem atA2 : atA A2 cashS = ⟨cashS, 6, 0, 4, 0, 0, 0⟩ := by
  unfold atA; rw [show Led.nm A2 = [cashS] from rfl, pos_one]; rfl
theorem atM1 : atM M1 keyS = ⟨keyS, 1, cashS, 4, 1⟩ := by
  unfold atM; rw [show Led.ky M1 = [keyS] from rfl, pos_one]; rfl
theorem awk_do : doE A1 [] keyS 1 cashS 4 = 0 := by
  have h1 : (Led.mayB A1 [] && Led.keyB keyS) = true := by decide +kernel
  have h2 : Act.actB 1 cashS 4 = true := by decide +kernel
  have h3 : Led.hasB (Led.ky []) keyS = false := rfl
  have h4 : Led.hasB (Led.nm A1) cashS = true := by decide +kernel
  unfold doE begE
  rw [if_pos h1, if_pos h2, h3, if_neg (by decide), if_pos h4, if_neg (by decide), atA1]
  decide +kernel
theorem awk_doA : doA A1 [] keyS 1 cashS 4 = A2 := by
  unfold doA
  rw [if_neg (show ¬ Led.hasB (Led.ky []) keyS = true by decide), atA1, show Led.nm A1 = [cashS] from rfl, pos_one]
  rfl
theorem awk_doM : doM [] keyS 1 cashS 4 = M1 := by
  unfold doM
  rw [if_neg (show ¬ Led.hasB (Led.ky []) keyS = true by decide)]
  rfl
theorem awk_may2 : Led.May A2 M1 := by have := do_may awk_do; rw [awk_doA, awk_doM] at this; exact this
theorem awk_again : doE A2 M1 keyS 1 cashS 4 = 0 ∧ doA A2 M1 keyS 1 cashS 4 = A2 ∧ doM M1 keyS 1 cashS 4 = M1 := by
  have := do_again awk_do; rw [awk_doA, awk_doM] at this; exact this
theorem awk_five : doE A2 M1 keyS 1 cashS 5 = 72 := by
  have h1 : (Led.mayB A2 M1 && Led.keyB keyS) = true := by rw [(Led.may_iff _ _).2 awk_may2]; decide +kernel
  have h2 : Act.actB 1 cashS 5 = true := by decide +kernel
  have h3 : Led.hasB (Led.ky M1) keyS = true := by decide +kernel
  unfold doE
  rw [if_pos h1, if_pos h2, if_pos h3, atM1, if_neg (by decide +kernel)]
theorem awk_end : endE Act.chUn 2 A2 M1 keyS = 0 := by
  have h1 : (Led.mayB A2 M1 && Led.keyB keyS) = true := by rw [(Led.may_iff _ _).2 awk_may2]; decide +kernel
  have h3 : Led.hasB (Led.ky M1) keyS = true := by decide +kernel
  unfold endE
  rw [if_pos h1, if_pos h3, atM1, if_neg (by decide), if_pos rfl, atA2]
  decide +kernel
theorem awk_endA : endA Act.chUn 2 A2 M1 keyS = A1 := by
  unfold endA
  rw [atM1, if_neg (by decide), atA2, show Led.nm A2 = [cashS] from rfl, pos_one]
  rfl
theorem awk_endM : endM 2 M1 keyS = M2 := by
  unfold endM
  rw [atM1, if_neg (by decide), show Led.ky M1 = [keyS] from rfl, pos_one]
  rfl
theorem awk_may3 : Led.May A1 M2 := by have := end_may (Or.inl ⟨rfl, rfl⟩) awk_end; rw [awk_endA, awk_endM] at this; exact this
theorem awk_find : findE A2 M1 cashS = ⟨cashS, 6, 0, 4, 0, 0, 0⟩ ∧ findB A2 M1 cashS = true := by
  have h4 : Led.hasB (Led.nm A2) cashS = true := by decide +kernel
  unfold findE findB
  rw [(Led.may_iff _ _).2 awk_may2, h4, if_pos rfl, if_pos rfl, show Led.nm A2 = [cashS] from rfl, pos_one]
  exact ⟨rfl, rfl⟩
theorem awk_state : stateE A1 M2 keyS = 2 := by
  have h4 : Led.hasB (Led.ky M2) keyS = true := by decide +kernel
  unfold stateE
  rw [(Led.may_iff _ _).2 awk_may3, h4, if_pos rfl, if_pos rfl, show Led.ky M2 = [keyS] from rfl, pos_one]
  rfl
theorem awk_none : mayL [accZ] [] = 2 := by decide +kernel
theorem awkOpen (w : World) : Calls Try.prog 18 #[.agg #[.slice none 0 0, .slice none 0 0], .string ⟨#[99, 97, 115, 104]⟩, .int .i64 10] w fun e w' => ∃ a1 c1 a2 c2, e = .returned (.tuple #[.agg #[.slice a1 1 c1, .slice a2 0 c2], .int .i64 0]) ∧ LedAt w' a1 a2 A1 [] ∧ Gr w w' :=
  (open_yes [] [] cashS 10 none 0 none 0 w ⟨RowAt.nil, RowAt.nil, by simp, by simp, by simp, by simp⟩ (by decide) awk_open).mono (by
    rintro e w2 ⟨v1, v2, rfl, o1, o2, g2⟩
    rw [awk_openA] at o1
    have o1 : w2.ownsRow w.heap.size _ 7 v1 A1.length (A1.flatMap accC) := o1
    obtain ⟨a1, c1, rfl, _, _, q1, _, _⟩ := own_row o1
    obtain ⟨a2, c2, rfl, _, _, q2, _, _⟩ := own_row o2
    exact ⟨a1, c1, a2, c2, rfl, led_of (by have := open_may awk_open; rw [awk_openA] at this; exact this) q1 q2, g2⟩)
theorem awkDo (a1 : Option Addr) (c1 : Nat) (a2 : Option Addr) (c2 : Nat) (w : World) (h : LedAt w a1 a2 A1 []) : Calls Try.prog 20 #[.agg #[.slice a1 1 c1, .slice a2 0 c2], .string ⟨#[107]⟩, .agg #[.int .i64 1, .string ⟨#[99, 97, 115, 104]⟩, .int .i64 4]] w fun e w' => ∃ a1 c1 a2 c2, e = .returned (.tuple #[.agg #[.slice a1 1 c1, .slice a2 1 c2], .int .i64 0]) ∧ LedAt w' a1 a2 A2 M1 ∧ (∀ a, a1 = some a → w.heap.size ≤ a.block) ∧ (∀ a, a2 = some a → w.heap.size ≤ a.block) ∧ Gr w w' :=
  (do_yes A1 [] keyS 1 4 cashS a1 c1 a2 c2 w h (by decide) (by decide) awk_do).mono (by
    rintro e w2 ⟨v1, v2, rfl, o1, o2, g2⟩
    rw [awk_doA] at o1
    rw [awk_doM] at o2
    obtain ⟨a1, c1, rfl, _, _, q1, n1, _⟩ := own_row o1
    obtain ⟨a2, c2, rfl, _, _, q2, n2, _⟩ := own_row o2
    exact ⟨a1, c1, a2, c2, rfl, led_of awk_may2 q1 q2, n1, n2, g2⟩)
theorem awkDo2 (a1 : Option Addr) (c1 : Nat) (a2 : Option Addr) (c2 : Nat) (w : World) (h : LedAt w a1 a2 A2 M1) : Calls Try.prog 20 #[.agg #[.slice a1 1 c1, .slice a2 1 c2], .string ⟨#[107]⟩, .agg #[.int .i64 1, .string ⟨#[99, 97, 115, 104]⟩, .int .i64 4]] w fun e w' => ∃ a1 c1 a2 c2, e = .returned (.tuple #[.agg #[.slice a1 1 c1, .slice a2 1 c2], .int .i64 0]) ∧ LedAt w' a1 a2 A2 M1 ∧ (∀ a, a1 = some a → w.heap.size ≤ a.block) ∧ (∀ a, a2 = some a → w.heap.size ≤ a.block) ∧ Gr w w' :=
  (do_yes A2 M1 keyS 1 4 cashS a1 c1 a2 c2 w h (by decide) (by decide) awk_again.1).mono (by
    rintro e w2 ⟨v1, v2, rfl, o1, o2, g2⟩
    rw [awk_again.2.1] at o1
    rw [awk_again.2.2] at o2
    obtain ⟨a1, c1, rfl, _, _, q1, n1, _⟩ := own_row o1
    obtain ⟨a2, c2, rfl, _, _, q2, n2, _⟩ := own_row o2
    exact ⟨a1, c1, a2, c2, rfl, led_of awk_may2 q1 q2, n1, n2, g2⟩)
theorem awkDo3 (a1 : Option Addr) (c1 : Nat) (a2 : Option Addr) (c2 : Nat) (w : World) (h : LedAt w a1 a2 A2 M1) : Calls Try.prog 20 #[.agg #[.slice a1 1 c1, .slice a2 1 c2], .string ⟨#[107]⟩, .agg #[.int .i64 1, .string ⟨#[99, 97, 115, 104]⟩, .int .i64 5]] w fun e w' => e = .returned (.tuple #[.agg #[.slice none 0 0, .slice none 0 0], .int .i64 72]) ∧ Gr w w' := by
  have := do_no A2 M1 keyS 1 5 cashS a1 c1 a2 c2 w h (by decide) (by decide) (by rw [awk_five]; decide)
  rw [awk_five] at this
  exact this
theorem awkUndo (a1 : Option Addr) (c1 : Nat) (a2 : Option Addr) (c2 : Nat) (w : World) (h : LedAt w a1 a2 A2 M1) : Calls Try.prog 22 #[.agg #[.slice a1 1 c1, .slice a2 1 c2], .string ⟨#[107]⟩] w fun e w' => ∃ a1 c1 a2 c2, e = .returned (.tuple #[.agg #[.slice a1 1 c1, .slice a2 1 c2], .int .i64 0]) ∧ LedAt w' a1 a2 A1 M2 ∧ Gr w w' :=
  (ownU_yes A2 M1 keyS a1 c1 a2 c2 w h (by decide) awk_end).mono (by
    rintro e w2 ⟨v1, v2, rfl, o1, o2, g2⟩
    rw [awk_endA] at o1
    rw [awk_endM] at o2
    obtain ⟨a1, c1, rfl, _, _, q1, _, _⟩ := own_row o1
    obtain ⟨a2, c2, rfl, _, _, q2, _, _⟩ := own_row o2
    exact ⟨a1, c1, a2, c2, rfl, led_of awk_may3 q1 q2, g2⟩)
theorem awkFind (a1 : Option Addr) (c1 : Nat) (a2 : Option Addr) (c2 : Nat) (w : World) (h : LedAt w a1 a2 A2 M1) : Calls Try.prog 10 #[.agg #[.slice a1 1 c1, .slice a2 1 c2], .string ⟨#[99, 97, 115, 104]⟩] w fun e w' => e = .returned (.tuple #[.agg #[.string ⟨#[99, 97, 115, 104]⟩, .int .i64 6, .int .i64 0, .int .i64 4, .int .i64 0, .int .i64 0, .int .i64 0], .bool true]) ∧ Gr w w' := by
  have := find7_any A2 M1 cashS a1 c1 a2 c2 w h
  rw [awk_find.1, awk_find.2] at this
  exact this
theorem awkState (a1 : Option Addr) (c1 : Nat) (a2 : Option Addr) (c2 : Nat) (w : World) (h : LedAt w a1 a2 A1 M2) : Calls Try.prog 16 #[.agg #[.slice a1 1 c1, .slice a2 1 c2], .string ⟨#[107]⟩] w fun e w' => e = .returned (.int .i64 2) ∧ Gr w w' := by
  have := state7_any A1 M2 keyS a1 c1 a2 c2 w h
  rw [awk_state] at this
  exact this
theorem awkMay (a1 : Option Addr) (c1 : Nat) (a2 : Option Addr) (c2 : Nat) (w : World) (h : AccsAt w a1 [accZ]) : Calls Try.prog 14 #[.agg #[.slice a1 1 c1, .slice a2 0 c2]] w fun e w' => e = .returned (.int .i64 2) ∧ Gr w w' := by
  have := may7_any [accZ] [] a1 c1 a2 c2 w h RowAt.nil (by intro x hx; simp at hx; subst hx; unfold inA inI accZ; decide +kernel) (by simp) (by simp) (by simp)
  rw [awk_none] at this
  exact this
end Go.Proofs.Ytgidkmipecfjhaa
namespace Go.Proofs.Ytgidkmipecfjhaa
open Go.RowKit
open Led (Acc Mk)
set_option maxHeartbeats 4000000 in
set_option maxRecDepth 100000 in
theorem same7_eq (A : List Acc) (M : List Mk) (a1 a2 b1 b2 : Option Addr) (c1 c2 c3 c4 : Nat) (w : World) (hA : AccsAt w a1 A) (hM : MksAt w a2 M) (hA' : AccsAt w b1 A) (hM' : MksAt w b2 M) (hnA : A.length ≤ 9223372036854775807) (hnM : M.length ≤ 9223372036854775807) :
    Calls Try.prog 25 #[.agg #[.slice a1 A.length c1, .slice a2 M.length c2], .agg #[.slice b1 A.length c3, .slice b2 M.length c4]] w fun e w' => e = .returned (.bool true) ∧ Gr w w' := by
  have H1 : Hid (AccsAt w a1 A) := hA
  have H2 : Hid (MksAt w a2 M) := hM
  have H3 : Hid (AccsAt w b1 A) := hA'
  have H4 : Hid (MksAt w b2 M) := hM'
  clear hA hM hA' hM'
  go_enter Try.func25, Try.ntmps25
  go_wp2
  have HBX : Hid (TwoAt ((w.alloc (.cells #[.slice a1 A.length c1, .slice a2 M.length c2] 25)).alloc (.cells #[.slice b1 A.length c3, .slice b2 M.length c4] 25)) w.heap.size (.slice a1 A.length c1) (.slice a2 M.length c2)) := (TwoAt.new w _ _ _ _ rfl).gr (Gr.refl _).alloc
  have HBY : Hid (TwoAt ((w.alloc (.cells #[.slice a1 A.length c1, .slice a2 M.length c2] 25)).alloc (.cells #[.slice b1 A.length c3, .slice b2 M.length c4] 25)) (w.heap.size + 1) (.slice b1 A.length c3) (.slice b2 M.length c4)) := TwoAt.new _ _ _ _ (w.heap.size + 1) (by simp)
  go_loopw [5] (fun s5 wr => ∃ k : Nat, s5 = .int .i64 k ∧ k ≤ A.length ∧ TwoAt wr w.heap.size (.slice a1 A.length c1) (.slice a2 M.length c2) ∧ TwoAt wr (w.heap.size + 1) (.slice b1 A.length c3) (.slice b2 M.length c4) ∧ Gr w wr) (fun s5 _ => A.length - (intOf s5).toNat)
  case atStart => exact ⟨0, rfl, Nat.zero_le _, HBX.out, HBY.out, (Gr.refl _).alloc.alloc⟩
  case round =>
    clear HBX HBY
    obtain ⟨k, rfl, hk, hX, hY, hg⟩ := hrel
    have HX : Hid (TwoAt wr w.heap.size (.slice a1 A.length c1) (.slice a2 M.length c2)) := hX
    have HY : Hid (TwoAt wr (w.heap.size + 1) (.slice b1 A.length c3) (.slice b2 M.length c4)) := hY
    have HG : Hid (Gr w wr) := hg
    obtain ⟨x0, x1, _, _, xl⟩ := hX
    obtain ⟨y0, y1, _, _, yl⟩ := hY
    clear hg
    by_cases hlt : k < A.length
    · obtain ⟨b, off, rfl, hb, d0, d1, d2, d3, d4, d5, d6⟩ := (AccsAt.at H1.out k hlt)
      obtain ⟨b', off', rfl, hb', e0, e1, e2, e3, e4, e5, e6⟩ := (AccsAt.at H3.out k hlt)
      have d0 := HG.out.keep d0
      have d1 := HG.out.keep d1
      have d2 := HG.out.keep d2
      have d3 := HG.out.keep d3
      have d4 := HG.out.keep d4
      have d5 := HG.out.keep d5
      have d6 := HG.out.keep d6
      have e0 := HG.out.keep e0
      have e1 := HG.out.keep e1
      have e2 := HG.out.keep e2
      have e3 := HG.out.keep e3
      have e4 := HG.out.keep e4
      have e5 := HG.out.keep e5
      have e6 := HG.out.keep e6
      have hbw : b < wr.heap.size := Nat.lt_of_lt_of_le hb HG.out.size
      have hbw' : b' < wr.heap.size := Nat.lt_of_lt_of_le hb' HG.out.size
      have hki : (k : Int) < (A.length : Int) := by omega
      generalize A[k] = x at *
      go_wp2_with fail
      go_quiet (fail)
      go_wp2
      go_roundw
      case rel => exact ⟨k + 1, by go_num, by omega, HX.out.gr ((Gr.refl _).drewN _), HY.out.gr ((Gr.refl _).drewN _), HG.out.drewN _⟩
      case measure => simp [intOf]; omega
    · have hge : ¬ ((k : Int) < (A.length : Int)) := by omega
      go_wp2
      go_loopw [6] (fun s6 wr => ∃ k : Nat, s6 = .int .i64 k ∧ k ≤ M.length ∧ TwoAt wr w.heap.size (.slice a1 A.length c1) (.slice a2 M.length c2) ∧ TwoAt wr (w.heap.size + 1) (.slice b1 A.length c3) (.slice b2 M.length c4) ∧ Gr w wr) (fun s6 _ => M.length - (intOf s6).toNat)
      case atStart => exact ⟨0, rfl, Nat.zero_le _, HX.out, HY.out, HG.out⟩
      case round =>
        clear HX HY HG x0 x1 xl y0 y1 yl
        obtain ⟨k, rfl, hk, hX, hY, hg⟩ := hrel
        have HX : Hid (TwoAt wr w.heap.size (.slice a1 A.length c1) (.slice a2 M.length c2)) := hX
        have HY : Hid (TwoAt wr (w.heap.size + 1) (.slice b1 A.length c3) (.slice b2 M.length c4)) := hY
        have HG : Hid (Gr w wr) := hg
        obtain ⟨x0, x1, _, _, xl⟩ := hX
        obtain ⟨y0, y1, _, _, yl⟩ := hY
        clear hg
        by_cases hlt : k < M.length
        · obtain ⟨b, off, rfl, hb, d0, d1, d2, d3, d4⟩ := (MksAt.at H2.out k hlt)
          obtain ⟨b', off', rfl, hb', e0, e1, e2, e3, e4⟩ := (MksAt.at H4.out k hlt)
          have d0 := HG.out.keep d0
          have d1 := HG.out.keep d1
          have d2 := HG.out.keep d2
          have d3 := HG.out.keep d3
          have d4 := HG.out.keep d4
          have e0 := HG.out.keep e0
          have e1 := HG.out.keep e1
          have e2 := HG.out.keep e2
          have e3 := HG.out.keep e3
          have e4 := HG.out.keep e4
          have hbw : b < wr.heap.size := Nat.lt_of_lt_of_le hb HG.out.size
          have hbw' : b' < wr.heap.size := Nat.lt_of_lt_of_le hb' HG.out.size
          have hki : (k : Int) < (M.length : Int) := by omega
          generalize M[k] = x at *
          go_wp2_with fail
          go_quiet (fail)
          go_wp2
          go_roundw
          case rel => exact ⟨k + 1, by go_num, by omega, HX.out.gr ((Gr.refl _).drewN _), HY.out.gr ((Gr.refl _).drewN _), HG.out.drewN _⟩
          case measure => simp [intOf]; omega
        · have hge : ¬ ((k : Int) < (M.length : Int)) := by omega
          go_wp2
          go_ret
          exact ⟨rfl, HG.out⟩
end Go.Proofs.Ytgidkmipecfjhaa
namespace Go.Proofs.Ytgidkmipecfjhaa
open Go.RowKit
open Led (Acc Mk)
theorem acc_alone {w : World} {g : Nat} {x : Acc} (h : AccAt w g (.string x.s) (.int .i64 x.a) (.int .i64 x.b) (.int .i64 x.c) (.int .i64 x.x) (.int .i64 x.y) (.int .i64 x.z)) : AccsAt w (some ⟨g, 0, none⟩) [x] := by
  have hb := h.lt
  obtain ⟨c0, c1, c2, c3, c4, c5, c6⟩ := h.cells
  intro j u hu
  rw [show [x].flatMap accC = accC x by simp] at hu
  unfold accC at hu
  match j, hu with
  | 0, hu => cases hu; exact ⟨g, 0, rfl, hb, c0⟩
  | 1, hu => cases hu; exact ⟨g, 0, rfl, hb, c1⟩
  | 2, hu => cases hu; exact ⟨g, 0, rfl, hb, c2⟩
  | 3, hu => cases hu; exact ⟨g, 0, rfl, hb, c3⟩
  | 4, hu => cases hu; exact ⟨g, 0, rfl, hb, c4⟩
  | 5, hu => cases hu; exact ⟨g, 0, rfl, hb, c5⟩
  | 6, hu => cases hu; exact ⟨g, 0, rfl, hb, c6⟩
  | j + 7, hu => simp at hu
theorem LedAt.setFar {w : World} {a1 a2 : Option Addr} {A : List Acc} {M : List Mk} (h : LedAt w a1 a2 A M) (p : Addr) (v : Value) (h1 : ∀ a, a1 = some a → p.block ≠ a.block) (h2 : ∀ a, a2 = some a → p.block ≠ a.block) : LedAt (w.setCell p v) a1 a2 A M :=
  ⟨h.a.setFar p v h1, h.m.setFar p v h2, h.ra, h.rm, h.la, h.lm⟩
set_option maxHeartbeats 4000000 in
set_option maxRecDepth 100000 in
theorem awake_any (w : World) : Calls Try.prog 9 #[] w fun e w' => e = .returned (.bool true) ∧ Gr w w' := by
  go_enter Try.func9, Try.ntmps9
  go_wp2_with fail
  refine (awkOpen _).mono ?_
  rintro e w1 ⟨x1, y1, x2, y2, rfl, hl1, hg1⟩
  have HL1 : Hid (LedAt w1 x1 x2 A1 []) := hl1
  have g1 : Gr w w1 := hg1
  clear hl1 hg1
  go_wp2_with fail
  refine (awkDo x1 y1 x2 y2 _ (HL1.out.gr (Gr.refl _).alloc.alloc)).mono ?_
  rintro e w2 ⟨p1, q1, p2, q2, rfl, hl2, hf1, hf2, hg2⟩
  have HL2 : Hid (LedAt w2 p1 p2 A2 M1) := hl2
  have HF1 : Hid (∀ a, p1 = some a → w1.heap.size + 1 ≠ a.block) := fun a e => by have := hf1 a e; simp at this; omega
  have HF2 : Hid (∀ a, p2 = some a → w1.heap.size + 1 ≠ a.block) := fun a e => by have := hf2 a e; simp at this; omega
  have HB2 : Hid (BoxAt w2 (w1.heap.size + 1) _ _ _) := (BoxAt.new (w1.alloc _) _ _ _ _ (w1.heap.size + 1) (by simp)).gr hg2
  have g2 : Gr w w2 := g1.alloc.alloc.trans hg2
  have z1 := g1.size
  have z2 := hg2.size
  simp at z2
  obtain ⟨a0, a1, a2, af0, af1, af2, al⟩ := HB2.out
  clear hl2 hg2 hf1 hf2 HL1 g1
  go_wp2_with fail
  refine (awkDo2 p1 q1 p2 q2 _ (HL2.out.gr (Gr.refl _).alloc)).mono ?_
  rintro e w3 ⟨s1, t1, s2, t2, rfl, hl3, hf1, hf2, hg3⟩
  have HL3 : Hid (LedAt w3 p1 p2 A2 M1) := (HL2.out.gr (Gr.refl _).alloc).gr hg3
  have HN3 : Hid (LedAt w3 s1 s2 A2 M1) := hl3
  have HE1 : Hid (∀ a, s1 = some a → w1.heap.size + 1 ≠ a.block) := fun a e => by have := hf1 a e; simp at this; omega
  have HE2 : Hid (∀ a, s2 = some a → w1.heap.size + 1 ≠ a.block) := fun a e => by have := hf2 a e; simp at this; omega
  have HB3 : Hid (BoxAt w3 (w1.heap.size + 1) _ _ _) := (HB2.out.gr (Gr.refl _).alloc).gr hg3
  have HM3 : Hid (TwoAt w3 w2.heap.size _ _) := (TwoAt.new w2 _ _ _ _ rfl).gr hg3
  have g3 : Gr w w3 := g2.alloc.trans hg3
  have z3 := hg3.size
  simp at z3
  clear a0 a1 a2 af0 af1 af2 al
  obtain ⟨a0, a1, a2, af0, af1, af2, al⟩ := HB3.out
  obtain ⟨m0, m1, _, _, ml⟩ := HM3.out
  clear hl3 hg3 hf1 hf2 g2 HL2
  go_wp2_with fail
  have gs : Gr w ((w3.setCell ⟨w1.heap.size + 1, 2, none⟩ (.int .i64 5)).alloc (.cells #[.slice s1 1 t1, .slice s2 1 t2] 25)) := (g3.set _ (by simp; omega) _).alloc
  have HLs : Hid (LedAt ((w3.setCell ⟨w1.heap.size + 1, 2, none⟩ (.int .i64 5)).alloc (.cells #[.slice s1 1 t1, .slice s2 1 t2] 25)) p1 p2 A2 M1) := (HL3.out.setFar _ _ HF1.out HF2.out).gr (Gr.refl _).alloc
  have HNs : Hid (LedAt ((w3.setCell ⟨w1.heap.size + 1, 2, none⟩ (.int .i64 5)).alloc (.cells #[.slice s1 1 t1, .slice s2 1 t2] 25)) s1 s2 A2 M1) := (HN3.out.setFar _ _ HE1.out HE2.out).gr (Gr.refl _).alloc
  have HMs : Hid (TwoAt ((w3.setCell ⟨w1.heap.size + 1, 2, none⟩ (.int .i64 5)).alloc (.cells #[.slice s1 1 t1, .slice s2 1 t2] 25)) w2.heap.size _ _) := (HM3.out.far _ _ (by simp; omega)).gr (Gr.refl _).alloc
  have HQs : Hid (TwoAt ((w3.setCell ⟨w1.heap.size + 1, 2, none⟩ (.int .i64 5)).alloc (.cells #[.slice s1 1 t1, .slice s2 1 t2] 25)) w3.heap.size _ _) := TwoAt.new _ _ _ _ w3.heap.size (by simp)
  clear HL3 HN3 HM3 HB3 HB2 HF1 HF2 HE1 HE2 g3
  refine (awkDo3 p1 q1 p2 q2 _ HLs.out).mono ?_
  rintro e w4 ⟨rfl, hg4⟩
  have HL4 : Hid (LedAt w4 p1 p2 A2 M1) := HLs.out.gr hg4
  have HN4 : Hid (LedAt w4 s1 s2 A2 M1) := HNs.out.gr hg4
  have HM4 : Hid (TwoAt w4 w2.heap.size _ _) := HMs.out.gr hg4
  have HQ4 : Hid (TwoAt w4 w3.heap.size _ _) := HQs.out.gr hg4
  have g4 : Gr w w4 := gs.trans hg4
  have z4 := hg4.size
  simp at z4
  clear a0 a1 a2 af0 af1 af2 al m0 m1 ml
  obtain ⟨m0, m1, _, _, ml⟩ := HM4.out
  clear hg4 HLs HNs HMs HQs gs
  go_wp2_with fail
  refine (awkUndo p1 q1 p2 q2 _ (HL4.out.gr (Gr.refl _).alloc)).mono ?_
  rintro e w5 ⟨u1, v1, u2, v2, rfl, hl5, hg5⟩
  have HU5 : Hid (LedAt w5 u1 u2 A1 M2) := hl5
  have HL5 : Hid (LedAt w5 p1 p2 A2 M1) := (HL4.out.gr (Gr.refl _).alloc).gr hg5
  have HN5 : Hid (LedAt w5 s1 s2 A2 M1) := (HN4.out.gr (Gr.refl _).alloc).gr hg5
  have HM5 : Hid (TwoAt w5 w2.heap.size _ _) := (HM4.out.gr (Gr.refl _).alloc).gr hg5
  have HQ5 : Hid (TwoAt w5 w3.heap.size _ _) := (HQ4.out.gr (Gr.refl _).alloc).gr hg5
  have g5 : Gr w w5 := g4.alloc.trans hg5
  clear m0 m1 ml
  obtain ⟨m0, m1, _, _, ml⟩ := HM5.out
  clear hg5 hl5 HL4 HN4 HM4 HQ4 g4
  go_wp2_with fail
  refine (awkFind p1 q1 p2 q2 _ (HL5.out.gr (Gr.refl _).alloc)).mono ?_
  rintro e w6 ⟨rfl, hg6⟩
  have HU6 : Hid (LedAt w6 u1 u2 A1 M2) := (HU5.out.gr (Gr.refl _).alloc).gr hg6
  have HL6 : Hid (LedAt w6 p1 p2 A2 M1) := (HL5.out.gr (Gr.refl _).alloc).gr hg6
  have HN6 : Hid (LedAt w6 s1 s2 A2 M1) := (HN5.out.gr (Gr.refl _).alloc).gr hg6
  have HM6 : Hid (TwoAt w6 w2.heap.size _ _) := (HM5.out.gr (Gr.refl _).alloc).gr hg6
  have HQ6 : Hid (TwoAt w6 w3.heap.size _ _) := (HQ5.out.gr (Gr.refl _).alloc).gr hg6
  have HV6 : Hid (TwoAt w6 w5.heap.size _ _) := (TwoAt.new w5 _ _ _ _ rfl).gr hg6
  have g6 : Gr w w6 := g5.alloc.trans hg6
  clear m0 m1 ml
  obtain ⟨m0, m1, _, _, ml⟩ := HM6.out
  obtain ⟨n0, n1, _, _, nl⟩ := HQ6.out
  clear hg6 HL5 HN5 HM5 HQ5 HU5 g5
  go_wp2_with fail
  refine (same7_eq A2 M1 p1 p2 s1 s2 q1 q2 t1 t2 _ (HL6.out.gr (Gr.refl _).alloc).a (HL6.out.gr (Gr.refl _).alloc).m (HN6.out.gr (Gr.refl _).alloc).a (HN6.out.gr (Gr.refl _).alloc).m (by decide) (by decide)).mono ?_
  rintro e w7 ⟨rfl, hg7⟩
  have HU7 : Hid (LedAt w7 u1 u2 A1 M2) := (HU6.out.gr (Gr.refl _).alloc).gr hg7
  have HV7 : Hid (TwoAt w7 w5.heap.size _ _) := (HV6.out.gr (Gr.refl _).alloc).gr hg7
  have HX7 : Hid (AccAt w7 w6.heap.size _ _ _ _ _ _ _) := (AccAt.new w6 _ _ _ _ _ _ _ _ _ rfl).gr hg7
  have g7 : Gr w w7 := g6.alloc.trans hg7
  clear m0 m1 ml n0 n1 nl
  obtain ⟨v0, v3, _, _, vl⟩ := HV7.out
  clear hg7 HL6 HN6 HM6 HQ6 HV6 HU6 g6
  go_wp2_with fail
  refine (awkState u1 v1 u2 v2 _ HU7.out).mono ?_
  rintro e w8 ⟨rfl, hg8⟩
  have HX8 : Hid (AccAt w8 w6.heap.size _ _ _ _ _ _ _) := HX7.out.gr hg8
  have g8 : Gr w w8 := g7.trans hg8
  obtain ⟨c0, c1, c2, c3, c4, c5, c6⟩ := HX8.out.cells
  have cl := HX8.out.lt
  clear v0 v3 vl hg8 HU7 HV7 HX7 g7
  go_wp2_with fail
  refine (awkMay _ 1 none 0 _ (acc_alone (x := accZ) (AccAt.new w8 _ _ _ _ _ _ _ _ _ rfl))).mono ?_
  rintro e w9 ⟨rfl, hg9⟩
  have g9 : Gr w w9 := g8.alloc.trans hg9
  clear hg9 g8 HX8
  go_wp2
  go_ret
  exact ⟨rfl, g9⟩
end Go.Proofs.Ytgidkmipecfjhaa
namespace Go.Proofs.Ytgidkmipecfjhaa
open Go.RowKit
set_option maxHeartbeats 2000000 in
set_option maxRecDepth 100000 in
theorem few_any (T : List Cal) (ad : Option Addr) (cap : Nat) (w : World) (h : CalsAt w ad T) (hn : T.length ≤ 9223372036854775807) :
    Calls Try.prog 26 #[.slice ad T.length cap] w fun e w' => e = .returned (.bool (decide (T.length ≤ 120) && T.all (fun q => decide (q.key.size ≤ 1000)))) ∧ Gr w w' := by
  have H : Hid (CalsAt w ad T) := h
  clear h
  by_cases hlen : (120 : Int) < (T.length : Int)
  · have hd : decide (T.length ≤ 120) = false := decide_eq_false (by omega)
    rw [hd, Bool.false_and]
    go_enter Try.func26, Try.ntmps26
    go_wp2
    go_ret
    exact ⟨rfl, Gr.refl _⟩
  have hd : decide (T.length ≤ 120) = true := decide_eq_true (by omega)
  rw [hd, Bool.true_and]
  clear hd
  go_enter Try.func26, Try.ntmps26
  go_wp2
  go_loopw [3] (fun ix wr => ∃ k : Nat, k ≤ T.length ∧ ix = .int .i64 k ∧ wr = w ∧ ∀ j (h : j < T.length), j < k → T[j].key.size ≤ 1000)
      (fun ix _ => T.length - (intOf ix).toNat)
  case atStart => exact ⟨0, by omega, rfl, rfl, fun j _ hj => absurd hj (by omega)⟩
  case round =>
    obtain ⟨k, hk, rfl, rfl, hall⟩ := hrel
    by_cases hlt : k < T.length
    · obtain ⟨b, off, rfl, hb, c0, c1, c2, c3, c4⟩ := H.out k hlt
      have hki : (k : Int) < (T.length : Int) := by omega
      obtain ⟨t, ht⟩ : ∃ t, T[k] = t := ⟨_, rfl⟩
      rw [ht] at c0 c1 c2 c3 c4
      by_cases hs : (1000 : Int) < (t.key.size : Int)
      · have hno : T.all (fun q => decide (q.key.size ≤ 1000)) = false := by
          rw [List.all_eq_false]
          exact ⟨t, ht ▸ List.getElem_mem hlt, by simp; omega⟩
        have HNo : Hid (T.all (fun q => decide (q.key.size ≤ 1000)) = false) := hno
        clear hno ht hall
        go_wp2
        go_ret
        exact ⟨by rw [HNo.out]; rfl, Gr.refl _⟩
      · have HN : Hid (∀ j (h : j < T.length), j < k + 1 → T[j].key.size ≤ 1000) := fun j h1 h2 => by
          rcases Nat.lt_or_ge j k with h3 | h3
          · exact hall j h1 h3
          · have : j = k := by omega
            subst this; rw [ht]; omega
        clear ht hall
        go_wp2
        exact ⟨⟨k + 1, by omega, by simp, trivial, HN.out⟩, by simp only [intOf]; omega⟩
    · have hki : ¬ (k : Int) < (T.length : Int) := by omega
      have hyes : T.all (fun q => decide (q.key.size ≤ 1000)) = true := by
        rw [List.all_eq_true]
        intro q hq
        obtain ⟨j, hj, rfl⟩ := List.mem_iff_getElem.1 hq
        exact decide_eq_true (hall j hj (by omega))
      have HY : Hid (T.all (fun q => decide (q.key.size ≤ 1000)) = true) := hyes
      clear hyes hall
      go_wp2
      go_ret
      exact ⟨by rw [HY.out]; rfl, Gr.refl _⟩
end Go.Proofs.Ytgidkmipecfjhaa
namespace Go.Proofs.Ytgidkmipecfjhaa
open Go.ChangeShapes Go.WideShapes Go.ChangeAt Go.RowKit
open Led (Acc Mk)
set_option maxHeartbeats 16000000 in
set_option maxRecDepth 100000 in
theorem ledgerBalance_walk (T : List Cal) (ad : Option Addr) (cap : Nat) (w : World) (hA : CalsAt w ad T) (hn : T.length ≤ 9223372036854775807) (hT : ∀ q ∈ T, inC q) :
    Calls Try.prog 6 #[.slice ad T.length cap] w fun e w' => e = .returned (.bool true) ∧ Gr w w' := by
  have HA : Hid (∀ w', Calls Try.prog 9 #[] w' fun e w2 => e = .returned (.bool true) ∧ Gr w' w2) := fun w' => awake_any w'
  have HF := few_any T ad cap w hA hn
  generalize (decide (T.length ≤ 120) && T.all (fun q => decide (q.key.size ≤ 1000))) = fb at HF
  cases fb with
  | false =>
    have HFF : Hid (Calls Try.prog 26 #[.slice ad T.length cap] w fun e w' => e = .returned (.bool false) ∧ Gr w w') := HF
    clear HF
    go_enter Try.func6, Try.ntmps6
    go_wp2_with fail
    refine HFF.out.mono ?_
    rintro e w1 ⟨rfl, hg1⟩
    go_wp2_with fail
    refine (HA.out _).mono ?_
    rintro e w2 ⟨rfl, hg2⟩
    go_wp2
    go_ret
    exact ⟨rfl, (by repeat (first | exact Gr.refl _ | refine Gr.alloc ?_ | refine Gr.drew ?_ | refine Gr.trans ?_ (by assumption)))⟩
  | true =>
    have HFF : Hid (Calls Try.prog 26 #[.slice ad T.length cap] w fun e w' => e = .returned (.bool true) ∧ Gr w w') := HF
    have HO : Hid (∀ w', Gr w w' → Calls Try.prog 28 #[.slice ad T.length cap] w' fun e w2 => OpR w' e w2) := fun w' g => opened_any T ad cap w' (hA.gr g) hn hT
    clear HF hA hT
    go_enter Try.func6, Try.ntmps6
    go_wp2_with fail
    refine HFF.out.mono ?_
    rintro e w1 ⟨rfl, hg1⟩
    go_wp2_with fail
    refine (HO.out _ hg1).mono ?_
    rintro e w2 ⟨A, M, F, a1, c1, a2, c2, a3, c3, rfl, hmay, hbal, hr1, hr2, hr3, hg2⟩
    have HM : Hid (Led.May A M) := hmay
    have HB : Hid (Bal A M F) := hbal
    have HR1 : Hid (AccsAt w2 a1 A) := hr1
    have HR2 : Hid (MksAt w2 a2 M) := hr2
    have HR3 : Hid (AccsAt w2 a3 (F.map fA)) := hr3
    have HG2 : Hid (Gr w w2) := hg1.trans hg2
    have hFA : F.length = A.length := hbal.1
    have hFl : F.length ≤ 12 := by have := hmay.la; omega
    have hMl : M.length ≤ 500 := hmay.lm
    have HBX : Hid (TwoAt (w2.alloc (.cells #[.slice a1 A.length c1, .slice a2 M.length c2] 25)) w2.heap.size (.slice a1 A.length c1) (.slice a2 M.length c2)) := TwoAt.new w2 _ _ _ _ rfl
    have HG3 : Hid (Gr w2 (w2.alloc (.cells #[.slice a1 A.length c1, .slice a2 M.length c2] 25))) := (Gr.refl _).alloc
    have hne : ((F.length : Int) != (A.length : Int)) = false := by rw [hFA]; simp
    clear hmay hbal hr1 hr2 hr3 hg1 hg2 hFA HFF HO
    go_wp2
    go_loopw [5] (fun ix wr => ∃ k : Nat, k ≤ F.length ∧ ix = .int .i64 (k : Int) ∧ TwoAt wr w2.heap.size (.slice a1 A.length c1) (.slice a2 M.length c2) ∧ Gr w2 wr) (fun ix _ => F.length - (intOf ix).toNat)
    case atStart => exact ⟨0, by omega, rfl, HBX.out, HG3.out⟩
    case round =>
      obtain ⟨k, hk, rfl, hbx, hg⟩ := hrel
      have HGR : Hid (Gr w2 wr) := hg
      have HBR : Hid (TwoAt wr w2.heap.size (.slice a1 A.length c1) (.slice a2 M.length c2)) := hbx
      clear hg hbx HBX HG3 hne
      obtain ⟨wo, hwo⟩ : ∃ x : World, x = wr := ⟨_, rfl⟩
      subst hwo
      by_cases hlt : k < F.length
      · obtain ⟨x, _, f1, f2, f3, f4, f5, f6, f7, f8, f9⟩ := bal_one HM.out HB.out k hlt
        obtain ⟨b3, o3, rfl, hb3, e0, e1, _⟩ := AccsAt.at HR3.out k (by simpa using hlt)
        rw [List.getElem_map] at e0 e1
        have e0 : w2.cell? ⟨b3, o3 + k * 7, none⟩ = some (.string F[k].1) := e0
        have e1 : w2.cell? ⟨b3, o3 + k * 7 + 1, none⟩ = some (.int .i64 F[k].2) := e1
        have HRG : Hid (∀ j, (-500000000000000000 ≤ Led.sm (Led.gNF F[k].1) (M.take j) ∧ Led.sm (Led.gNF F[k].1) (M.take j) ≤ 500000000000000000) ∧ (-500000000000000000 ≤ Led.sm (Led.gNK F[k].1) (M.take j) ∧ Led.sm (Led.gNK F[k].1) (M.take j) ≤ 500000000000000000)) := fun j => sm_rng F[k].1 HM.out j
        have HFD : Hid (∀ w', Gr w2 w' → Calls Try.prog 10 #[.agg #[.slice a1 A.length c1, .slice a2 M.length c2], .string F[k].1] w' fun e w2' => e = .returned (.tuple #[.agg #[.string x.s, .int .i64 x.a, .int .i64 x.b, .int .i64 x.c, .int .i64 x.x, .int .i64 x.y, .int .i64 x.z], .bool true]) ∧ Gr w' w2') := fun w' g => by
          have := find7_any A M F[k].1 a1 c1 a2 c2 w' ((led_of HM.out HR1.out HR2.out).gr g)
          rw [f1, f2] at this
          exact this
        have HNT : Hid (∀ w', Gr w2 w' → Calls Try.prog 12 #[.agg #[.slice a1 A.length c1, .slice a2 M.length c2], .string F[k].1, .string ⟨#[]⟩] w' fun e w2' => e = .returned (.tuple #[.int .i64 (Led.sm (Led.gNF F[k].1) M), .int .i64 (Led.sm (Led.gNK F[k].1) M), .int .i64 0]) ∧ Gr w' w2') := fun w' g => by
          have := net7_any A M F[k].1 ⟨#[]⟩ a1 c1 a2 c2 w' ((led_of HM.out HR1.out HR2.out).gr g)
          rw [f7, f8, f9] at this
          exact this
        have HDL : Hid (∀ (j : Nat) (hj : j < M.length) (w' : World), Calls Try.prog 29 #[.agg #[.int .i64 M[j].k, .string M[j].t, .int .i64 M[j].n]] w' fun e w2' => e = .returned (.tuple #[.int .i64 (Led.amF M[j]), .int .i64 (Led.amK M[j])]) ∧ Gr w' w2') := fun j hj w' => delta_any _ _ _ w' (by have := (may_ranges HM.out).2 M[j] (List.getElem_mem hj); unfold inM at this; omega)
        have HST : Hid (∀ (j : Nat) (hj : j < M.length), Led.sm (Led.gNF F[k].1) (M.take (j + 1)) = Led.sm (Led.gNF F[k].1) (M.take j) + (if M[j].t = F[k].1 ∧ M[j].st ≠ 2 then Led.amF M[j] else 0) ∧ Led.sm (Led.gNK F[k].1) (M.take (j + 1)) = Led.sm (Led.gNK F[k].1) (M.take j) + (if M[j].t = F[k].1 ∧ M[j].st ≠ 2 then Led.amK M[j] else 0)) := fun j hj => by
          rw [sm_take _ M j hj, sm_take _ M j hj, (g_at _ _).1, (g_at _ _).2]; exact ⟨rfl, rfl⟩
        have HLA : Hid (Led.sm (Led.gNF F[k].1) (M.take M.length) = Led.sm (Led.gNF F[k].1) M ∧ Led.sm (Led.gNK F[k].1) (M.take M.length) = Led.sm (Led.gNK F[k].1) M) := by rw [List.take_length]; exact ⟨rfl, rfl⟩
        have HXA : Hid (x.a = F[k].2 + Led.sm (Led.gNF F[k].1) M ∧ x.x = Led.sm (Led.gNK F[k].1) M ∧ 0 ≤ x.a ∧ x.a ≤ 1000000000000000) := ⟨f4, f5, f6.1, f6.2⟩
        clear f1 f2 f3 f4 f5 f6 f7 f8 f9
        generalize F[k].1 = s at *
        generalize F[k].2 = n at *
        have d0 := HGR.out.keep e0
        have hbw : b3 < wo.heap.size := Nat.lt_of_lt_of_le hb3 HGR.out.size
        obtain ⟨x0, x1, _, _, xl⟩ := HBR.out
        go_upto_region 9 with fail
        go_cut [6, 7] (fun sp se wx => ∃ Q : Nat, sp = .pointer (some ⟨Q, 0, none⟩) ∧ se = .bool true ∧ AccAt wx Q (.string x.s) (.int .i64 x.a) (.int .i64 x.b) (.int .i64 x.c) (.int .i64 x.x) (.int .i64 x.y) (.int .i64 x.z) ∧ Gr wo wx)
        case first =>
          refine wp_region_held_drew (S := (fun w' => Gr wo w' ∧ w'.cell? ⟨w2.heap.size, 0, none⟩ = some (.slice a1 A.length c1) ∧ w'.cell? ⟨w2.heap.size, 1, none⟩ = some (.slice a2 M.length c2) ∧ w'.cell? ⟨b3, o3 + k * 7, none⟩ = some (.string s))) (by kernel_rfl) (by exact hold3 (by (with_reducible repeat' (first | exact Gr.refl _ | refine Gr.set ?_ _ ?_ _ | refine Gr.alloc ?_ | refine Gr.drew ?_ | refine Gr.trans ?_ (by assumption))) <;> (first | (simp; done) | (simp; omega) | omega)) x0 x1 d0) (fun hHeld => ?_)
          refine ty 0 38 hHeld ?_
          refine ty 1 39 hHeld ?_
          refine ty 2 40 hHeld ?_
          refine ty 3 41 hHeld ?_
          refine ty 4 42 hHeld ?_
          refine ty 5 43 hHeld ?_
          refine wpAnyH_ready (rs := [6, 10]) (by kernel_rfl) (by simp) (AllReadyH.cons rfl (fun K hK => ?_) (AllReadyH.cons rfl (fun K hK => ?_) AllReadyH.nil))
          · skip
            go_simp
            (go_at_call 10; refine (HFD.out _ (HGR.out.trans (by (with_reducible repeat' (first | exact Gr.refl _ | refine Gr.set ?_ _ ?_ _ | refine Gr.alloc ?_ | refine Gr.drew ?_ | refine Gr.trans ?_ (by assumption))) <;> (first | (simp; done) | (simp; omega) | omega)))).mono ?_; rintro e wn ⟨rfl, hgn⟩)
            (try go_wp2_with fail)
            refine hK.out _ _ (by exact hold3 (by (with_reducible repeat' (first | exact Gr.refl _ | refine Gr.set ?_ _ ?_ _ | refine Gr.alloc ?_ | refine Gr.drew ?_ | refine Gr.trans ?_ (by assumption))) <;> (first | (simp; done) | (simp; omega) | omega)) x0 x1 d0) (fun hHeldN => ?_)
            clear hHeld hK K
            have hHeld := hHeldN
            clear hHeldN
            refine ty 7 37 hHeld ?_
            refine ty 8 45 hHeld ?_
            refine ty 9 46 hHeld ?_
            refine wpAnyH_ready (rs := [10]) (by kernel_rfl) (by simp) (AllReadyH.cons rfl (fun K hK => ?_) AllReadyH.nil)
            go_simp
            refine hK.out _ _ (by exact hold3 (by (with_reducible repeat' (first | exact Gr.refl _ | refine Gr.set ?_ _ ?_ _ | refine Gr.alloc ?_ | refine Gr.drew ?_ | refine Gr.trans ?_ (by assumption))) <;> (first | (simp; done) | (simp; omega) | omega)) x0 x1 d0) (fun hHeldN => ?_)
            clear hHeld hK K
            have hHeld := hHeldN
            clear hHeldN
            refine wpAnyH_ready (rs := [11]) (by kernel_rfl) (by simp) (AllReadyH.cons rfl (fun K hK => ?_) AllReadyH.nil)
            go_simp
            refine hK.out _ _ (by exact hold3 (by (with_reducible repeat' (first | exact Gr.refl _ | refine Gr.set ?_ _ ?_ _ | refine Gr.alloc ?_ | refine Gr.drew ?_ | refine Gr.trans ?_ (by assumption))) <;> (first | (simp; done) | (simp; omega) | omega)) x0 x1 d0) (fun hHeldN => ?_)
            clear hHeld hK K
            have hHeld := hHeldN
            clear hHeldN
            refine ty 12 7 hHeld ?_
            refine wpAnyH_done (by kernel_rfl) ?_ _
            go_wp2_with fail
            go_meet
            exact ⟨_, rfl, rfl, AccAt.new wn _ _ _ _ _ _ _ _ _ rfl, (by (with_reducible repeat' (first | exact Gr.refl _ | refine Gr.set ?_ _ ?_ _ | refine Gr.alloc ?_ | refine Gr.drew ?_ | refine Gr.trans ?_ (by assumption))) <;> (first | (simp; done) | (simp; omega) | omega))⟩
          · skip
            go_simp
            refine hK.out _ _ (by exact hold3 (by (with_reducible repeat' (first | exact Gr.refl _ | refine Gr.set ?_ _ ?_ _ | refine Gr.alloc ?_ | refine Gr.drew ?_ | refine Gr.trans ?_ (by assumption))) <;> (first | (simp; done) | (simp; omega) | omega)) x0 x1 d0) (fun hHeldN => ?_)
            clear hHeld hK K
            have hHeld := hHeldN
            clear hHeldN
            refine wpAnyH_ready (rs := [6]) (by kernel_rfl) (by simp) (AllReadyH.cons rfl (fun K hK => ?_) AllReadyH.nil)
            go_simp
            (go_at_call 10; refine (HFD.out _ (HGR.out.trans (by (with_reducible repeat' (first | exact Gr.refl _ | refine Gr.set ?_ _ ?_ _ | refine Gr.alloc ?_ | refine Gr.drew ?_ | refine Gr.trans ?_ (by assumption))) <;> (first | (simp; done) | (simp; omega) | omega)))).mono ?_; rintro e wn ⟨rfl, hgn⟩; have hzn := hgn.size; simp at hzn; have hbz := ((AccAt.new wo _ _ _ _ _ _ _ _ _ rfl).gr (Gr.refl _).drew).gr hgn; have HBZ : Hid (AccAt wn wo.heap.size _ _ _ _ _ _ _) := hbz; obtain ⟨z0, z1, z2, z3, z4, z5, z6⟩ := hbz.cells; obtain ⟨y0, y1, y2, y3, y4, y5, y6⟩ := hbz.frozens; have zl := hbz.lt; clear hbz)
            (try go_wp2_with fail)
            refine hK.out _ _ (by exact hold3 (by (with_reducible repeat' (first | exact Gr.refl _ | refine Gr.set ?_ _ ?_ _ | refine Gr.alloc ?_ | refine Gr.drew ?_ | refine Gr.trans ?_ (by assumption))) <;> (first | (simp; done) | (simp; omega) | omega)) x0 x1 d0) (fun hHeldN => ?_)
            clear hHeld hK K
            have hHeld := hHeldN
            clear hHeldN
            refine ty 7 37 hHeld ?_
            refine ty 8 45 hHeld ?_
            refine ty 9 46 hHeld ?_
            refine wpAnyH_ready (rs := [11]) (by kernel_rfl) (by simp) (AllReadyH.cons rfl (fun K hK => ?_) AllReadyH.nil)
            go_simp
            refine hK.out _ _ (by exact hold3 (by (with_reducible repeat' (first | exact Gr.refl _ | refine Gr.set ?_ _ ?_ _ | refine Gr.alloc ?_ | refine Gr.drew ?_ | refine Gr.trans ?_ (by assumption))) <;> (first | (simp; done) | (simp; omega) | omega)) x0 x1 d0) (fun hHeldN => ?_)
            clear hHeld hK K
            have hHeld := hHeldN
            clear hHeldN
            refine ty 12 7 hHeld ?_
            refine wpAnyH_done (by kernel_rfl) ?_ _
            go_wp2_with fail
            go_meet
            exact ⟨_, rfl, rfl, HBZ.out.set7 _ _ _ _ _ _ _, (by (with_reducible repeat' (first | exact Gr.refl _ | refine Gr.set ?_ _ ?_ _ | refine Gr.alloc ?_ | refine Gr.drew ?_ | refine Gr.trans ?_ (by assumption))) <;> (first | (simp; done) | (simp; omega) | omega))⟩
        case rest =>
        obtain ⟨wp, rfl⟩ : ∃ x, x = wc := ⟨_, rfl⟩
        obtain ⟨Q, rfl, rfl, hQA, hgc⟩ := hcut
        have HQA : Hid (AccAt wp Q (.string x.s) (.int .i64 x.a) (.int .i64 x.b) (.int .i64 x.c) (.int .i64 x.x) (.int .i64 x.y) (.int .i64 x.z)) := hQA
        have HGP : Hid (Gr w2 wp) := HGR.out.trans hgc
        have HBP : Hid (TwoAt wp w2.heap.size (.slice a1 A.length c1) (.slice a2 M.length c2)) := HBR.out.gr hgc
        clear hQA hgc x0 x1 xl d0 hbw HFD HBR
        go_wp2
        go_loopw [8, 9, 10] (fun fr ke jx wr => ∃ j : Nat, j ≤ M.length ∧ jx = .int .i64 (j : Int) ∧ fr = .int .i64 (Led.sm (Led.gNF s) (M.take j)) ∧ ke = .int .i64 (Led.sm (Led.gNK s) (M.take j)) ∧ Gr wp wr) (fun _ _ jx _ => M.length - (intOf jx).toNat)
        case atStart => exact ⟨0, by omega, rfl, rfl, rfl, Gr.refl _⟩
        case round =>
          obtain ⟨j, hj, rfl, rfl, rfl, hgj⟩ := hrel
          have HGJ : Hid (Gr wp wr) := hgj
          obtain ⟨x0, x1, _, _, xl⟩ := HBP.out.gr hgj
          clear hgj
          have hG2 := HGP.out.trans HGJ.out
          have d0 := hG2.keep e0
          have d1 := hG2.keep e1
          have hbw : b3 < wr.heap.size := Nat.lt_of_lt_of_le hb3 hG2.size
          clear hG2
          by_cases hjl : j < M.length
          · obtain ⟨b2, o2, rfl, hb2, m0, m1, m2, m3, m4⟩ := MksAt.at (RowAt.gr HR2.out (HGP.out.trans HGJ.out)) j hjl
            have hst := HST.out j hjl
            have hrg := HRG.out j
            have hrg1 := HRG.out (j + 1)
            have hDj := HDL.out j hjl
            have heq := eqB M[j].t s
            have HDJ : Hid (∀ (w' : World), Calls Try.prog 29 #[.agg #[.int .i64 M[j].k, .string M[j].t, .int .i64 M[j].n]] w' fun e w2' => e = .returned (.tuple #[.int .i64 (Led.amF M[j]), .int .i64 (Led.amK M[j])]) ∧ Gr w' w2') := hDj
            clear hDj m0
            by_cases he : M[j].t = s
            · rw [decide_eq_true he] at heq
              by_cases h2 : M[j].st = 2
              · have hs2 : (M[j].st != 2) = false := by simpa using h2
                rw [if_neg (fun h => h.2 h2), if_neg (fun h => h.2 h2), Int.add_zero, Int.add_zero] at hst
                have HS : Hid (Led.sm (Led.gNF s) (M.take (j + 1)) = Led.sm (Led.gNF s) (M.take j) ∧ Led.sm (Led.gNK s) (M.take (j + 1)) = Led.sm (Led.gNK s) (M.take j)) := hst
                clear hst h2 he hrg hrg1
                go_wp2
                go_quiet (fail)
                go_wp2
                go_roundw
                case rel => exact ⟨j + 1, by omega, by go_num, by rw [HS.out.1], by rw [HS.out.2], HGJ.out.trans ((Gr.refl _).drewN _)⟩
                case measure => simp [intOf]; omega
              · have hs2 : (M[j].st != 2) = true := by simpa using h2
                rw [if_pos ⟨he, h2⟩, if_pos ⟨he, h2⟩] at hst
                have hw1 : wrap64 (Led.sm (Led.gNF s) (M.take j) + Led.amF M[j]) = Led.sm (Led.gNF s) (M.take (j + 1)) := by rw [← hst.1]; unfold wrap64; omega
                have hw2 : wrap64 (Led.sm (Led.gNK s) (M.take j) + Led.amK M[j]) = Led.sm (Led.gNK s) (M.take (j + 1)) := by rw [← hst.2]; unfold wrap64; omega
                clear hst h2 he hrg hrg1
                generalize hz1 : Led.sm (Led.gNF s) (M.take (j + 1)) = z1 at hw1
                generalize hz2 : Led.sm (Led.gNK s) (M.take (j + 1)) = z2 at hw2
                have HZ1 : Hid (Led.sm (Led.gNF s) (M.take (j + 1)) = z1 ∧ Led.sm (Led.gNK s) (M.take (j + 1)) = z2) := ⟨hz1, hz2⟩
                have HW : Hid (wrap64 (Led.sm (Led.gNF s) (M.take j) + Led.amF M[j]) = z1 ∧ wrap64 (Led.sm (Led.gNK s) (M.take j) + Led.amK M[j]) = z2) := ⟨hw1, hw2⟩
                clear hz1 hz2 hw1 hw2
                go_wp2
                go_quiet (fail)
                go_wp2_with fail
                refine (HDJ.out _).mono ?_
                rintro e w6 ⟨rfl, hg6⟩
                have HG6 : Hid (Gr wp w6) := HGJ.out.trans (((Gr.refl _).drewN _).trans hg6)
                clear hg6 x0 x1 xl d0 d1 m1 m2 m3 m4
                go_wp2
                go_roundw
                case rel => exact ⟨j + 1, by omega, by go_num, by rw [HZ1.out.1, HW.out.1], by rw [HZ1.out.2, HW.out.2], HG6.out⟩
                case measure => simp [intOf]; omega
            · rw [decide_eq_false he] at heq
              rw [if_neg (fun h => he h.1), if_neg (fun h => he h.1), Int.add_zero, Int.add_zero] at hst
              have HS : Hid (Led.sm (Led.gNF s) (M.take (j + 1)) = Led.sm (Led.gNF s) (M.take j) ∧ Led.sm (Led.gNK s) (M.take (j + 1)) = Led.sm (Led.gNK s) (M.take j)) := hst
              clear hst he hrg hrg1
              go_wp2
              go_quiet (fail)
              go_wp2
              go_roundw
              case rel => exact ⟨j + 1, by omega, by go_num, by rw [HS.out.1], by rw [HS.out.2], HGJ.out.trans ((Gr.refl _).drewN _)⟩
              case measure => simp [intOf]; omega
          · obtain rfl : j = M.length := by omega
            rw [HLA.out.1, HLA.out.2]
            have hxa := HXA.out
            have hQ := HQA.out.gr HGJ.out
            have HQJ : Hid (AccAt wr Q (.string x.s) (.int .i64 x.a) (.int .i64 x.b) (.int .i64 x.c) (.int .i64 x.x) (.int .i64 x.y) (.int .i64 x.z)) := hQ
            have HG2w := HG2
            have HG2 : Hid (Gr w2 wr) := HGP.out.trans HGJ.out
            obtain ⟨hxa1, hxa2, hxa3, hxa4⟩ := hxa
            have hQ1 := hQ.c1
            have hQ4 := hQ.c4
            have hQl := hQ.lt
            rw [hxa2] at hQ4
            generalize Led.sm (Led.gNF s) M = SF at *
            generalize Led.sm (Led.gNK s) M = SK at *
            have hwx : IntKind.i64.wrap (n + SF) = x.a := by rw [IntKind.wrap_i64, hxa1]; omega
            generalize x.a = xa at *
            clear hQ hxa1 hxa2 hxa3 hxa4 HRG HST HDL HLA HXA
            go_upto_region 17 with fail
            refine wp_region_held_drew (S := (fun w' => Gr wr w' ∧ w'.cell? ⟨w2.heap.size, 0, none⟩ = some (.slice a1 A.length c1) ∧ w'.cell? ⟨w2.heap.size, 1, none⟩ = some (.slice a2 M.length c2) ∧ w'.cell? ⟨b3, o3 + k * 7, none⟩ = some (.string s))) (by kernel_rfl) (by exact hold3 (by (with_reducible repeat' (first | exact Gr.refl _ | refine Gr.set ?_ _ ?_ _ | refine Gr.alloc ?_ | refine Gr.drew ?_ | refine Gr.trans ?_ (by assumption))) <;> (first | (simp; done) | (simp; omega) | omega)) x0 x1 d0) (fun hHeld => ?_)
            refine ty 0 93 hHeld ?_
            refine ty 1 94 hHeld ?_
            refine ty 2 95 hHeld ?_
            refine ty 3 96 hHeld ?_
            refine ty 4 97 hHeld ?_
            refine ty 5 98 hHeld ?_
            refine wpAnyH_ready (rs := [6]) (by kernel_rfl) (by simp) (AllReadyH.cons rfl (fun K hK => ?_) AllReadyH.nil)
            go_simp
            (go_at_call 12; refine (HNT.out _ (HG2.out.trans (by (with_reducible repeat' (first | exact Gr.refl _ | refine Gr.set ?_ _ ?_ _ | refine Gr.alloc ?_ | refine Gr.drew ?_ | refine Gr.trans ?_ (by assumption))) <;> (first | (simp; done) | (simp; omega) | omega)))).mono ?_; rintro e wn ⟨rfl, hgn⟩)
            (try go_wp2_with fail)
            refine hK.out _ _ (by exact hold3 (by (with_reducible repeat' (first | exact Gr.refl _ | refine Gr.set ?_ _ ?_ _ | refine Gr.alloc ?_ | refine Gr.drew ?_ | refine Gr.trans ?_ (by assumption))) <;> (first | (simp; done) | (simp; omega) | omega)) x0 x1 d0) (fun hHeldN => ?_)
            clear hHeld hK K
            have hHeld := hHeldN
            clear hHeldN
            refine ty 7 92 hHeld ?_
            refine ty 8 100 hHeld ?_
            refine ty 9 101 hHeld ?_
            refine ty 10 102 hHeld ?_
            refine ty 11 13 hHeld ?_
            refine ty 12 14 hHeld ?_
            refine ty 13 15 hHeld ?_
            refine wpAnyH_done (by kernel_rfl) ?_ _
            have gn : Gr wr wn := (Gr.refl _).drew.trans hgn
            have r1 := gn.keep hQ1
            have r4 := gn.keep hQ4
            have r5 := gn.keep d1
            have hl1 : Q < wn.heap.size := Nat.lt_of_lt_of_le hQl gn.size
            have hl3 : b3 < wn.heap.size := Nat.lt_of_lt_of_le hbw gn.size
            have HBN : Hid (TwoAt wn w2.heap.size (.slice a1 A.length c1) (.slice a2 M.length c2)) := (HBP.out.gr HGJ.out).gr gn
            have HGN : Hid (Gr w2 wn) := HG2.out.trans gn
            clear gn hgn hQ1 hQ4 hQl d0 d1 x0 x1 xl hbw
            go_wp2
            go_quiet (fail)
            go_wp2
            go_roundw
            case rel => exact ⟨k + 1, by omega, by go_num, HBN.out.gr ((Gr.refl _).drewN _), HGN.out.trans ((Gr.refl _).drewN _)⟩
            case measure => simp [intOf]; omega
      · obtain rfl : k = F.length := by omega
        go_wp2_with fail
        refine (HA.out _).mono ?_
        rintro e w9 ⟨rfl, hg9⟩
        go_wp2
        go_ret
        exact ⟨rfl, (HG2.out.trans HGR.out).trans hg9⟩
set_option maxRecDepth 100000 in
theorem ledgerBalance_lifted (os : Os) (started : os.Started) (H : Type) (enc : TypeId × Value → H) :
    ReturnsInHanded {} Try.checked os 6 .any (Rows.ledgerBalanceSpec.pre6 enc Try.prog Try.f6 Rows.ledgerBalanceRow.domain false) (Rows.ledgerBalanceSpec.post enc Try.prog Try.f6 false true false false) := by
  refine returnsInHanded_of_change (C := Try.checked) own2 started (by kernel_rfl) Try.func6
    (ChangeSpec.witness6 (enc := enc) (C := Try.checked) false ⟨#[], #[.slice none 0 0], []⟩ 8 (by kernel_rfl) (by kernel_rfl) (by kernel_rfl) (by kernel_rfl)) ?_
  intro W base args ds gs before hval0 hW hcnd _
  have hval : ∀ (j : Nat) t v, Try.f6.params[j]? = some t → args[j]? = some v → Value.okWide Try.prog W .any base t v := hval0
  have hW' := hW
  obtain ⟨p, q, hA0, hV, rfl, hfz, hnd⟩ := hW
  have hA : DataW.TrodAll enc Try.prog W 0 (fun _ => true) true Try.f6.params.toList args.toList ds p := hA0
  rw [Try.params6] at hA hval
  obtain ⟨v0, d0, rfl, rfl, q0⟩ := trodAll_one hA
  obtain ⟨rfl, rfl⟩ := trodVars_none hV
  have k0 := q0
  have lt0 : ∀ x ∈ p, x.block < W.heap.size := by obtain ⟨m, hm⟩ := k0; exact DataW.trod_lt m _ _ _ hm
  obtain ⟨ad0, cap0, T0, rfl, hT0, hn0, hr0⟩ := open_calls (hval 0 57 v0 rfl rfl) q0
  clear hA0 hval0
  refine (ledgerBalance_walk T0 ad0 cap0 W hT0 hn0 hr0).mono fun e W' ⟨he, hg⟩ => ?_
  subst he
  exact ⟨_, rfl, _, _, _, [], _, [], hW', trodAll_mk1 (shut_bool Try.underlying4 _), trodAll_mk1 (Below.trod laidOut2 (by kernel_rfl) (of_decide_eq_true (by kernel_rfl)) k0 hg.below lt0), rfl, hg.below.frame _, fun h => by cases h⟩
theorem ledgerBalance_holds : Rows.LedgerBalanceSaid :=
  OpenClaim.holds_of_wide 6 Try.f6 rfl rfl rfl rfl rfl rfl rfl ⟨rfl, rfl, rfl, rfl, rfl⟩ rfl rfl rfl rfl rfl (by kernel_rfl) Try.func6 (by kernel_rfl)
    (of_decide_eq_true (by kernel_rfl)) (by unfold Func.isWrapper; first | (rw [if_pos (by decide +kernel)]; kernel_rfl) | (rw [if_neg (by decide +kernel)]; exact ⟨rfl, rfl⟩))
    (fun os started H enc _ => ledgerBalance_lifted os started H enc)
end Go.Proofs.Ytgidkmipecfjhaa
