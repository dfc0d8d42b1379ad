/- The law's own test of blanks. -/
import Derived.Test.YtdlcmbbaicoicaaLexU
import Derived.Test.YtdlcmbbaicoicaaBase
namespace Go.Proofs.Ytdlcmbbaicoicaa
open Go.RowKit
open Lex (blf bl1 bad1 blanksB)

theorem blf_snoc {l : List UInt8} {k : Nat} {r : Bool} (h : k < l.length) (hr : blf false (l.take k) = some r) : blf false (l.take (k + 1)) = if bad1 r l[k] = true then none else some (bl1 r l[k]) := by
  rw [List.take_succ_eq_append_getElem h, Lex.blf_app, hr]
  rfl
theorem blf_bad {l : List UInt8} {k : Nat} {r : Bool} (h : k < l.length) (hr : blf false (l.take k) = some r) (hb : bad1 r l[k] = true) : blanksB l = false := by
  have h1 := blf_snoc h hr
  rw [if_pos hb] at h1
  unfold Lex.blanksB
  rw [← List.take_append_drop (k + 1) l, Lex.blf_app, h1]
  rfl

set_option maxHeartbeats 4000000 in
set_option maxRecDepth 100000 in
theorem blanks_any (s : ByteArray) (w : World) (hs : s.size ≤ 9223372036854775807) : Calls Try.prog 19 #[.string s] w fun e w' => e = .returned (.bool (blanksB s.data.toList)) ∧ w' = w := by
  have hl : s.data.toList.length = s.size := by simp
  have HB : Hid (∀ (k : Nat) (r : Bool) (h : k < s.size), blf false (s.data.toList.take k) = some r → bad1 r (s[k]'h) = true → blanksB s.data.toList = false) := fun k r h h1 h2 => blf_bad (by omega) h1 h2
  have HS : Hid (∀ (k : Nat) (r : Bool) (h : k < s.size), blf false (s.data.toList.take k) = some r → bad1 r (s[k]'h) = false → blf false (s.data.toList.take (k + 1)) = some (bl1 r (s[k]'h))) := by
    intro k r h h1 h2
    have := blf_snoc (by omega) h1
    rw [this, show s.data.toList[k]'(by omega) = s[k]'h from rfl, h2]; rfl
  have HE : Hid (∀ r, blf false (s.data.toList.take s.size) = some r → blanksB s.data.toList = true) := by
    intro r h
    rw [← hl, List.take_length] at h
    unfold Lex.blanksB; rw [h]; rfl
  go_enter Try.func19, Try.ntmps19
  go_wp2
  go_loop [3, 4] (fun q i => ∃ (k : Nat) (r : Bool), k ≤ s.size ∧ i = .int .i64 (k : Int) ∧ q = .bool r ∧ blf false (s.data.toList.take k) = some r) (fun _ i => s.size - (intOf i).toNat)
  case atStart => exact ⟨0, false, by omega, rfl, rfl, rfl⟩
  case round =>
    obtain ⟨k, r, hk, rfl, rfl, hr⟩ := hrel
    have HR : Hid (blf false (s.data.toList.take k) = some r) := hr
    clear hr
    by_cases hlt : k < s.size
    · have HSk : Hid (bad1 r (s[k]'hlt) = false → blf false (s.data.toList.take (k + 1)) = some (bl1 r (s[k]'hlt))) := HS.out k r hlt HR.out
      have HBk : Hid (bad1 r (s[k]'hlt) = true → blanksB s.data.toList = false) := HB.out k r hlt HR.out
      by_cases h10 : ((s[k]'hlt).toNat : Int) = 10
      · have HN : Hid (blf false (s.data.toList.take (k + 1)) = some false) := by
          have e1 : bl1 r (s[k]'hlt) = false := by unfold Lex.bl1; rw [if_pos h10]
          have e2 : bad1 r (s[k]'hlt) = false := by unfold Lex.bad1; rw [decide_eq_true h10]; simp
          have := HSk.out e2
          rw [e1] at this
          exact this
        have a0 : (((s[k]'hlt).toNat : Int) == 35) = false := by rw [beq_eq_false_iff_ne]; omega
        have a1 : (((s[k]'hlt).toNat : Int) == 10) = true := by simpa using h10
        have a2 : (((s[k]'hlt).toNat : Int) != 10) = false := by simpa using h10
        have a3 : (((s[k]'hlt).toNat : Int) != 32) = true := by simp; omega
        have a4 : (((s[k]'hlt).toNat : Int) != 9) = true := by simp; omega
        clear h10 HSk HBk
        go_wp2
        go_round
        case rel => exact ⟨k + 1, false, by omega, by go_num, rfl, HN.out⟩
        case measure => simp [intOf]; omega
      have a1 : (((s[k]'hlt).toNat : Int) == 10) = false := by simpa using h10
      have a2 : (((s[k]'hlt).toNat : Int) != 10) = true := by simpa using h10
      by_cases h35 : ((s[k]'hlt).toNat : Int) = 35
      · have HN : Hid (blf false (s.data.toList.take (k + 1)) = some true) := by
          have e1 : bl1 r (s[k]'hlt) = true := by unfold Lex.bl1; rw [if_neg h10, if_pos h35]
          have e2 : bad1 r (s[k]'hlt) = false := by unfold Lex.bad1; rw [e1]; rfl
          have := HSk.out e2
          rw [e1] at this
          exact this
        have a0 : (((s[k]'hlt).toNat : Int) == 35) = true := by simpa using h35
        clear h10 h35 HSk HBk
        go_wp2
        go_round
        case rel => exact ⟨k + 1, true, by omega, by go_num, rfl, HN.out⟩
        case measure => simp [intOf]; omega
      have a0 : (((s[k]'hlt).toNat : Int) == 35) = false := by simpa using h35
      have e1 : bl1 r (s[k]'hlt) = r := by unfold Lex.bl1; rw [if_neg h10, if_neg h35]
      cases r with
      | true =>
        have HN : Hid (blf false (s.data.toList.take (k + 1)) = some true) := by
          have e2 : bad1 true (s[k]'hlt) = false := by unfold Lex.bad1; rw [e1]; rfl
          have := HSk.out e2
          rw [e1] at this
          exact this
        clear h10 h35 e1 HSk HBk
        go_wp2
        go_round
        case rel => exact ⟨k + 1, true, by omega, by go_num, rfl, HN.out⟩
        case measure => simp [intOf]; omega
      | false =>
        by_cases h32 : ((s[k]'hlt).toNat : Int) = 32
        · have HN : Hid (blf false (s.data.toList.take (k + 1)) = some false) := by
            have e2 : bad1 false (s[k]'hlt) = false := by unfold Lex.bad1; rw [decide_eq_true h32]; simp
            have := HSk.out e2
            rw [e1] at this
            exact this
          have a3 : (((s[k]'hlt).toNat : Int) != 32) = false := by simpa using h32
          clear h10 h35 h32 e1 HSk HBk a0 a1 a2
          have a0 : (((s[k]'hlt).toNat : Int) == 35) = false := by simp at a3; rw [a3]; decide
          have a1 : (((s[k]'hlt).toNat : Int) == 10) = false := by simp at a3; rw [a3]; decide
          go_wp2
          go_round
          case rel => exact ⟨k + 1, false, by omega, by go_num, rfl, HN.out⟩
          case measure => simp [intOf]; omega
        have a3 : (((s[k]'hlt).toNat : Int) != 32) = true := by simpa using h32
        by_cases h9 : ((s[k]'hlt).toNat : Int) = 9
        · have HN : Hid (blf false (s.data.toList.take (k + 1)) = some false) := by
            have e2 : bad1 false (s[k]'hlt) = false := by unfold Lex.bad1; rw [decide_eq_true h9]; simp
            have := HSk.out e2
            rw [e1] at this
            exact this
          have a4 : (((s[k]'hlt).toNat : Int) != 9) = false := by simpa using h9
          clear h10 h35 h32 h9 e1 HSk HBk
          go_wp2
          go_round
          case rel => exact ⟨k + 1, false, by omega, by go_num, rfl, HN.out⟩
          case measure => simp [intOf]; omega
        have a4 : (((s[k]'hlt).toNat : Int) != 9) = true := by simpa using h9
        have HF : Hid (blanksB s.data.toList = false) := HBk.out (by
          unfold Lex.bad1
          rw [e1, decide_eq_false h10, decide_eq_false h32, decide_eq_false h9]; rfl)
        clear h10 h35 h32 h9 e1 HSk HBk
        go_wp2
        go_ret
        exact ⟨by rw [HF.out]; rfl, rfl⟩
    · obtain rfl : k = s.size := by omega
      have HF : Hid (blanksB s.data.toList = true) := HE.out r HR.out
      go_wp2
      go_ret
      exact ⟨by rw [HF.out]; rfl, rfl⟩
end Go.Proofs.Ytdlcmbbaicoicaa
