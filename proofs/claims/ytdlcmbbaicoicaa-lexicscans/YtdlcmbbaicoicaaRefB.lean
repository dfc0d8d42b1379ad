/- The document's blanks, and Same. -/
import Derived.Test.YtdlcmbbaicoicaaLexP
import Derived.BigQuiet
namespace Go.Proofs.Ytdlcmbbaicoicaa
open Go.RowKit
open Lex (Tok blkB remB run)

/- how many bytes of blanks stand at the beginning -/
def blN (l : List UInt8) : Nat := match l with
  | [] => 0
  | b :: t => if blkB b = true then 1 else if (b.toNat : Int) = 35 then run remB (b :: t) else 0

set_option maxHeartbeats 4000000 in
set_option maxRecDepth 100000 in
theorem refBlank_any (s : ByteArray) (k : Nat) (w : World) (hk : k < s.size) (hs : s.size ≤ 2000) : Calls Try.prog 21 #[.string s, .int .i64 (k : Int)] w fun e w' => e = .returned (.int .i64 ((blN (s.data.toList.drop k) : Nat) : Int)) ∧ w' = w := by
  have hl : s.data.toList.length = s.size := by simp
  have hdr : s.data.toList.drop k = (s[k]'hk) :: s.data.toList.drop (k + 1) := Lex.drop_get s.data.toList k (by omega)
  have HB : Hid (blN (s.data.toList.drop k) = if blkB (s[k]'hk) = true then 1 else if ((s[k]'hk).toNat : Int) = 35 then run remB (s.data.toList.drop k) else 0) := by show _ = _; rw [hdr]; rfl
  by_cases h32 : ((s[k]'hk).toNat : Int) = 32
  · have hb : blkB (s[k]'hk) = true := by unfold Lex.blkB; rw [decide_eq_true h32]; rfl
    rw [hb, if_pos rfl] at HB
    have e : (((s[k]'hk).toNat : Int) == 32) = true := by simpa using h32
    clear h32 hdr hb
    rw [HB.out]
    go_enter Try.func21, Try.ntmps21
    go_wp2
    go_ret
    exact ⟨rfl, rfl⟩
  have e0 : (((s[k]'hk).toNat : Int) == 32) = false := by simpa using h32
  by_cases h9 : ((s[k]'hk).toNat : Int) = 9
  · have hb : blkB (s[k]'hk) = true := by unfold Lex.blkB; rw [decide_eq_true h9]; simp
    rw [hb, if_pos rfl] at HB
    have e : (((s[k]'hk).toNat : Int) == 9) = true := by simpa using h9
    clear h32 h9 hdr hb
    rw [HB.out]
    go_enter Try.func21, Try.ntmps21
    go_wp2
    go_ret
    exact ⟨rfl, rfl⟩
  have e1 : (((s[k]'hk).toNat : Int) == 9) = false := by simpa using h9
  by_cases h10 : ((s[k]'hk).toNat : Int) = 10
  · have hb : blkB (s[k]'hk) = true := by unfold Lex.blkB; rw [decide_eq_true h10]; simp
    rw [hb, if_pos rfl] at HB
    have e : (((s[k]'hk).toNat : Int) == 10) = true := by simpa using h10
    clear h32 h9 h10 hdr hb
    rw [HB.out]
    go_enter Try.func21, Try.ntmps21
    go_wp2
    go_ret
    exact ⟨rfl, rfl⟩
  have e2 : (((s[k]'hk).toNat : Int) == 10) = false := by simpa using h10
  have hb : blkB (s[k]'hk) = false := by unfold Lex.blkB; rw [decide_eq_false h32, decide_eq_false h9, decide_eq_false h10]; rfl
  rw [hb, if_neg (by simp)] at HB
  by_cases h35 : ((s[k]'hk).toNat : Int) = 35
  · rw [if_pos h35] at HB
    have e : (((s[k]'hk).toNat : Int) != 35) = false := by simpa using h35
    have HR : Hid (∀ m, m ≤ s.size - k → (∀ j (hj : k + j < s.size), j < m → remB (s[k + j]'hj) = true) → (∀ hm : k + m < s.size, remB (s[k + m]'hm) = false) → run remB (s.data.toList.drop k) = m) := by
      intro m hm ha he
      exact Lex.run_eq remB (s.data.toList.drop k) m (by rw [List.length_drop, hl]; omega) (fun j hj hlt => by rw [List.getElem_drop]; exact ha j (by rw [List.length_drop, hl] at hj; omega) hlt) (fun hlt => by rw [List.getElem_drop]; rw [List.length_drop, hl] at hlt; exact he (by omega))
    clear h32 h9 h10 h35 hdr hb
    rw [HB.out]
    generalize run remB (s.data.toList.drop k) = R at *
    go_enter Try.func21, Try.ntmps21
    go_wp2
    go_loop [5] (fun i => ∃ m : Nat, m ≤ s.size - k ∧ i = .int .i64 (m : Int) ∧ ∀ j (hj : k + j < s.size), j < m → remB (s[k + j]'hj) = true) (fun i => s.size - (intOf i).toNat)
    case atStart => exact ⟨0, by omega, rfl, fun j hj h => absurd h (by omega)⟩
    case round =>
      obtain ⟨m, hm, rfl, hall⟩ := hrel
      have HA : Hid (∀ j (hj : k + j < s.size), j < m → remB (s[k + j]'hj) = true) := hall
      clear hall
      have hw1 : wrap64 ((k : Int) + (m : Int)) = ((k + m : Nat) : Int) := by unfold wrap64; omega
      by_cases hlt : k + m < s.size
      · by_cases hn : ((s[k + m]'hlt).toNat : Int) = 10
        · have HE : Hid (R = m) := HR.out m hm HA.out (fun _ => by unfold Lex.remB; rw [decide_eq_true hn]; rfl)
          have e3 : (((s[k + m]'hlt).toNat : Int) != 10) = false := by simpa using hn
          clear hn
          go_wp2
          go_ret
          exact ⟨by rw [HE.out]; rfl, rfl⟩
        · have HS : Hid (remB (s[k + m]'hlt) = true) := by show _ = _; unfold Lex.remB; rw [decide_eq_false hn]; rfl
          have e3 : (((s[k + m]'hlt).toNat : Int) != 10) = true := by simpa using hn
          clear hn
          go_wp2
          go_round
          case rel => exact ⟨m + 1, by omega, by go_num, fun j hj h => if e : j = m then by subst e; exact HS.out else HA.out j hj (by omega)⟩
          case measure => simp [intOf]; omega
      · have HE : Hid (R = m) := HR.out m hm HA.out (fun h => absurd h hlt)
        go_wp2
        go_ret
        exact ⟨by rw [HE.out]; rfl, rfl⟩
  · rw [if_neg h35] at HB
    have e : (((s[k]'hk).toNat : Int) != 35) = true := by simpa using h35
    clear h32 h9 h10 h35 hdr hb
    rw [HB.out]
    go_enter Try.func21, Try.ntmps21
    go_wp2
    go_ret
    exact ⟨rfl, rfl⟩

set_option maxHeartbeats 4000000 in
set_option maxRecDepth 100000 in
theorem same_eq (T : List Tok) (ad1 ad2 : Option Addr) (c1 c2 : Nat) (w : World) (h1 : ToksAt w ad1 T) (h2 : ToksAt w ad2 T) (hn : T.length ≤ 5000) :
    Calls Try.prog 11 #[.slice ad1 T.length c1, .slice ad2 T.length c2] w fun e w' => e = .returned (.bool true) ∧ Gr w w' := by
  have H1 : Hid (ToksAt w ad1 T) := h1
  have H2 : Hid (ToksAt w ad2 T) := h2
  clear h1 h2
  go_enter Try.func11, Try.ntmps11
  go_wp2
  go_loopw [5] (fun i wr => ∃ k : Nat, k ≤ T.length ∧ i = .int .i64 (k : Int) ∧ Gr w wr) (fun i _ => T.length - (intOf i).toNat)
  case atStart => exact ⟨0, by omega, rfl, Gr.refl _⟩
  case round =>
    obtain ⟨k, hk, rfl, hg⟩ := hrel
    have HG : Hid (Gr w wr) := hg
    clear hg
    by_cases hlt : k < T.length
    · obtain ⟨b, off, rfl, hb, x0, x1, x2⟩ := (H1.out.gr HG.out) k hlt
      obtain ⟨b', off', rfl, hb', y0, y1, y2⟩ := (H2.out.gr HG.out) k hlt
      go_wp2
      go_quiet (fail)
      go_wp2
      go_roundw
      case rel => exact ⟨k + 1, by omega, by go_num, HG.out.trans ((Gr.refl _).drewN _)⟩
      case measure => simp [intOf]; omega
    · obtain rfl : k = T.length := by omega
      go_wp2
      go_ret
      exact ⟨rfl, HG.out⟩
end Go.Proofs.Ytdlcmbbaicoicaa
