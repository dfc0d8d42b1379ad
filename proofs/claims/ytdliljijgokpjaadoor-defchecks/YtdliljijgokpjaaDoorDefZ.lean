/- Plain mathematics: the text of a definition is read as it; what is read may be. -/
import Derived.Test.YtdliljijgokpjaaDoorDefV
import Derived.Test.YtdliljijgokpjaaDoorDefO
namespace Go.Proofs.YtdliljijgokpjaaDoor
open Df (Stp defB chE stpB tk pE pA pT pN pL prs)
open Lex (Tok scT scF scA ckE)

theorem back_text {nm : ByteArray} {L : List Stp} (h : defB nm L = true) : tN (shT nm L) = nm ∧ tL (shT nm L) = L ∧ tE (shT nm L) = 0 ∧ tA (shT nm L) = 0 := by
  obtain ⟨hF, hB⟩ := scan_def h
  obtain ⟨_, _, _, h4⟩ := (Df.def_iff nm L).1 h
  have hck := ck_scan hF
  have hlen : (scT (shT nm L)).length = 6 * L.length + 5 := by rw [Lex.butL_len _ _ hB, dTk_len]
  have hp : prs (scT (shT nm L)) 0 = (6 * L.length + 4, some (nm, L)) := by rw [prs_but hB, prs_at nm L h4]
  have hk : (tk (scT (shT nm L)) (6 * L.length + 4)).k = 0 := by rw [(tk_but hB _).1, dTk_last]
  generalize hT : scT (shT nm L) = T at *
  have hat : (0 : Int) ≤ 0 ∧ (0 : Int) < T.length := by omega
  have e1 : pE T 0 = 0 := by
    unfold Df.pE
    rw [if_neg hck, if_pos hat, show (0 : Int).toNat = 0 from rfl, hp]
    exact Df.ch_yes h
  have e3 : pT T 0 = ((6 * L.length + 4 : Nat) : Int) := by unfold Df.pT; rw [if_pos e1, show (0 : Int).toNat = 0 from rfl, hp]
  have e4 : pN T 0 = nm := by unfold Df.pN; rw [if_pos e1, show (0 : Int).toNat = 0 from rfl, hp]
  have e5 : pL T 0 = L := by unfold Df.pL; rw [if_pos e1, show (0 : Int).toNat = 0 from rfl, hp]
  have t1 : tE (shT nm L) = 0 := by
    unfold tE
    rw [if_neg (by rw [hF]; decide), hT, if_neg (by rw [e1]; decide), e3, Int.toNat_natCast, if_neg (by rw [hk]; decide)]
  refine ⟨?_, ?_, t1, ?_⟩
  · unfold tN; rw [if_pos t1, hT, e4]
  · unfold tL; rw [if_pos t1, hT, e5]
  · unfold tA
    rw [if_neg (by rw [hF]; decide), hT, if_neg (by rw [e1]; decide), e3, Int.toNat_natCast, if_neg (by rw [hk]; decide)]
theorem read_may {l : List UInt8} (h : tE l = 0) : defB (tN l) (tL l) = true := by
  have hn : tN l = pN (scT l) 0 := by unfold tN; rw [if_pos h]
  have hl : tL l = pL (scT l) 0 := by unfold tL; rw [if_pos h]
  have hp : pE (scT l) 0 = 0 := by
    unfold tE at h
    by_cases h1 : scF l ≠ 0
    · rw [if_pos h1] at h; exact absurd h h1
    · rw [if_neg h1] at h
      by_cases h2 : pE (scT l) 0 ≠ 0
      · rw [if_pos h2] at h; exact absurd h h2
      · simpa using h2
  rw [hn, hl]
  unfold Df.pN Df.pL
  rw [if_pos hp, if_pos hp]
  unfold Df.pE at hp
  split at hp
  · cases hp
  · split at hp
    · cases ho : (prs (scT l) (0 : Int).toNat).2 with
      | none => rw [ho] at hp; cases hp
      | some x =>
        obtain ⟨nm, L⟩ := x
        rw [ho] at hp
        simp only at hp ⊢
        cases hd : defB nm L with
        | true => rfl
        | false => rw [Df.ch_no hd] at hp; cases hp
    · cases hp
theorem stp_in {s : Stp} (h : stpB s = true) : inS s := by
  unfold Df.stpB at h
  simp only [Bool.or_eq_true] at h
  rcases h with h | h
  · obtain ⟨p1, ab, p3, p4, y1, y2⟩ := (Df.own_iff s).1 h
    obtain ⟨⟨k1, k2⟩, nb, n1, n2⟩ := (Act.act_iff s.k s.a s.n).1 ab
    have hz := name_le nb
    have hu : s.u.size = 0 := by rw [p1]; rfl
    unfold inS inI
    refine ⟨by omega, by omega, by omega, by omega, by omega, by omega, by omega⟩
  · obtain ⟨n1, q1, q2, q3, q4, o1, o2, v1, v2⟩ := (Df.ask_iff s).1 h
    have hz := name_le n1
    have ha : s.a.size = 0 := by rw [q2]; rfl
    unfold inS inI
    refine ⟨by omega, by omega, by omega, by omega, by omega, by omega, by omega⟩
end Go.Proofs.YtdliljijgokpjaaDoor
