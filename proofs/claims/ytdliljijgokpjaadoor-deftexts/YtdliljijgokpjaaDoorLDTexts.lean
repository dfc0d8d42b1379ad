/- For every input the law DefTexts answers true: any text is read as the document's definition, or has its fault. -/
import Derived.Test.YtdliljijgokpjaaDoorDefV
import Derived.Test.YtdliljijgokpjaaDoorDefO
import Derived.Test.YtdliljijgokpjaaDoorDefW
import Derived.Test.YtdliljijgokpjaaDoorRefDr
import Derived.Test.YtdliljijgokpjaaDoorRefS
import Derived.Test.YtdliljijgokpjaaDoorOpenD
import Derived.Test.YtdliljijgokpjaaDoorRefDq
import Derived.SevenTiedAt
namespace Go.Proofs.YtdliljijgokpjaaDoor
open Df (Stp defB chE stpB tk pE pA pT pN pL prs)
open Lex (Tok scT scF scA ckE)

theorem back_text {nm : ByteArray} {L : List Stp} (h : defB nm L = true) : tN (shT nm L) = nm ∧ tL (shT nm L) = L ∧ tE (shT nm L) = 0 ∧ tA (shT nm L) = 0 := by
  obtain ⟨hF, hB⟩ := scan_def h
  obtain ⟨_, _, _, h4⟩ := (Df.def_iff nm L).1 h
  have hck := ck_scan hF
  have hlen : (scT (shT nm L)).length = 6 * L.length + 5 := by rw [Lex.butL_len _ _ hB, dTk_len]
  have hp : prs (scT (shT nm L)) 0 = (6 * L.length + 4, some (nm, L)) := by rw [prs_but hB, prs_at nm L h4]
  have hk : (tk (scT (shT nm L)) (6 * L.length + 4)).k = 0 := by rw [(tk_but hB _).1, dTk_last]
  generalize hT : scT (shT nm L) = T at *
  have hat : (0 : Int) ≤ 0 ∧ (0 : Int) < T.length := by omega
  have e1 : pE T 0 = 0 := by
    unfold Df.pE
    rw [if_neg hck, if_pos hat, show (0 : Int).toNat = 0 from rfl, hp]
    exact Df.ch_yes h
  have e3 : pT T 0 = ((6 * L.length + 4 : Nat) : Int) := by unfold Df.pT; rw [if_pos e1, show (0 : Int).toNat = 0 from rfl, hp]
  have e4 : pN T 0 = nm := by unfold Df.pN; rw [if_pos e1, show (0 : Int).toNat = 0 from rfl, hp]
  have e5 : pL T 0 = L := by unfold Df.pL; rw [if_pos e1, show (0 : Int).toNat = 0 from rfl, hp]
  have t1 : tE (shT nm L) = 0 := by
    unfold tE
    rw [if_neg (by rw [hF]; decide), hT, if_neg (by rw [e1]; decide), e3, Int.toNat_natCast, if_neg (by rw [hk]; decide)]
  refine ⟨?_, ?_, t1, ?_⟩
  · unfold tN; rw [if_pos t1, hT, e4]
  · unfold tL; rw [if_pos t1, hT, e5]
  · unfold tA
    rw [if_neg (by rw [hF]; decide), hT, if_neg (by rw [e1]; decide), e3, Int.toNat_natCast, if_neg (by rw [hk]; decide)]
theorem read_may {l : List UInt8} (h : tE l = 0) : defB (tN l) (tL l) = true := by
  have hn : tN l = pN (scT l) 0 := by unfold tN; rw [if_pos h]
  have hl : tL l = pL (scT l) 0 := by unfold tL; rw [if_pos h]
  have hp : pE (scT l) 0 = 0 := by
    unfold tE at h
    by_cases h1 : scF l ≠ 0
    · rw [if_pos h1] at h; exact absurd h h1
    · rw [if_neg h1] at h
      by_cases h2 : pE (scT l) 0 ≠ 0
      · rw [if_pos h2] at h; exact absurd h h2
      · simpa using h2
  rw [hn, hl]
  unfold Df.pN Df.pL
  rw [if_pos hp, if_pos hp]
  unfold Df.pE at hp
  split at hp
  · cases hp
  · split at hp
    · cases ho : (prs (scT l) (0 : Int).toNat).2 with
      | none => rw [ho] at hp; cases hp
      | some x =>
        obtain ⟨nm, L⟩ := x
        rw [ho] at hp
        simp only at hp ⊢
        cases hd : defB nm L with
        | true => rfl
        | false => rw [Df.ch_no hd] at hp; cases hp
    · cases hp
theorem stp_in {s : Stp} (h : stpB s = true) : inS s := by
  unfold Df.stpB at h
  simp only [Bool.or_eq_true] at h
  rcases h with h | h
  · obtain ⟨p1, ab, p3, p4, y1, y2⟩ := (Df.own_iff s).1 h
    obtain ⟨⟨k1, k2⟩, nb, n1, n2⟩ := (Act.act_iff s.k s.a s.n).1 ab
    have hz := name_le nb
    have hu : s.u.size = 0 := by rw [p1]; rfl
    unfold inS inI
    refine ⟨by omega, by omega, by omega, by omega, by omega, by omega, by omega⟩
  · obtain ⟨n1, q1, q2, q3, q4, o1, o2, v1, v2⟩ := (Df.ask_iff s).1 h
    have hz := name_le n1
    have ha : s.a.size = 0 := by rw [q2]; rfl
    unfold inS inI
    refine ⟨by omega, by omega, by omega, by omega, by omega, by omega, by omega⟩
end Go.Proofs.YtdliljijgokpjaaDoor
namespace Go.Proofs.YtdliljijgokpjaaDoor
open Go.RowKit
open Df (Stp chE defB stpB)

def trip : ByteArray := ⟨#[116, 114, 105, 112]⟩
def tripL : List Stp := [⟨1, ⟨#[99, 97, 115, 104]⟩, 5, 0, ⟨#[]⟩, 3, 0⟩, ⟨0, ⟨#[]⟩, 0, 2, ⟨#[104, 111, 116, 101, 108]⟩, 0, 20⟩]
theorem trip_text : tE [115, 97, 103, 97, 32, 116, 114, 105, 112, 32, 123, 32, 100, 101, 98, 105, 116, 32, 99, 97, 115, 104, 32, 53, 32, 116, 114, 105, 101, 115, 32, 51, 59, 32, 97, 115, 107, 32, 50, 32, 104, 111, 116, 101, 108, 59, 32, 125] = 0 ∧ tA [115, 97, 103, 97, 32, 116, 114, 105, 112, 32, 123, 32, 100, 101, 98, 105, 116, 32, 99, 97, 115, 104, 32, 53, 32, 116, 114, 105, 101, 115, 32, 51, 59, 32, 97, 115, 107, 32, 50, 32, 104, 111, 116, 101, 108, 59, 32, 125] = 0 ∧ tN [115, 97, 103, 97, 32, 116, 114, 105, 112, 32, 123, 32, 100, 101, 98, 105, 116, 32, 99, 97, 115, 104, 32, 53, 32, 116, 114, 105, 101, 115, 32, 51, 59, 32, 97, 115, 107, 32, 50, 32, 104, 111, 116, 101, 108, 59, 32, 125] = trip ∧ tL [115, 97, 103, 97, 32, 116, 114, 105, 112, 32, 123, 32, 100, 101, 98, 105, 116, 32, 99, 97, 115, 104, 32, 53, 32, 116, 114, 105, 101, 115, 32, 51, 59, 32, 97, 115, 107, 32, 50, 32, 104, 111, 116, 101, 108, 59, 32, 125] = tripL := ⟨by rfl, by rfl, by rfl, by rfl⟩
theorem t_text : tE [115, 97, 103, 97, 32, 116, 32, 123, 32, 100, 101, 98, 105, 116, 32, 99, 97, 115, 104, 59, 32, 125] = 81 ∧ tA [115, 97, 103, 97, 32, 116, 32, 123, 32, 100, 101, 98, 105, 116, 32, 99, 97, 115, 104, 59, 32, 125] = 19 ∧ tN [115, 97, 103, 97, 32, 116, 32, 123, 32, 100, 101, 98, 105, 116, 32, 99, 97, 115, 104, 59, 32, 125] = ⟨#[]⟩ ∧ tL [115, 97, 103, 97, 32, 116, 32, 123, 32, 100, 101, 98, 105, 116, 32, 99, 97, 115, 104, 59, 32, 125] = [] := ⟨by rfl, by rfl, by rfl, by rfl⟩
theorem trip_may : defB trip tripL = true := by rfl
theorem dg_one (n : Int) (h : n.toNat < 10) : dg n = ⟨#[UInt8.ofNat (48 + n.toNat)]⟩ := by unfold dg; rw [Lib.decDigits_one h]
theorem dg_20 : dg 20 = ⟨#[50, 48]⟩ := by unfold dg; rw [show (20 : Int).toNat = 20 from rfl, Lib.decDigits_two (by omega) (by omega)]; rfl
theorem trip_show : shE trip tripL = ⟨#[115, 97, 103, 97, 32, 116, 114, 105, 112, 32, 123, 10, 32, 32, 100, 101, 98, 105, 116, 32, 99, 97, 115, 104, 32, 53, 32, 116, 114, 105, 101, 115, 32, 51, 59, 10, 32, 32, 97, 115, 107, 32, 50, 32, 104, 111, 116, 101, 108, 32, 119, 97, 105, 116, 32, 50, 48, 59, 10, 125, 10]⟩ := by
  have e : shT trip tripL = [115, 97, 103, 97, 32, 116, 114, 105, 112, 32, 123, 10, 32, 32, 100, 101, 98, 105, 116, 32, 99, 97, 115, 104, 32, 53, 32, 116, 114, 105, 101, 115, 32, 51, 59, 10, 32, 32, 97, 115, 107, 32, 50, 32, 104, 111, 116, 101, 108, 32, 119, 97, 105, 116, 32, 50, 48, 59, 10, 125, 10] := by
    unfold shT tripL
    simp only [List.flatMap_cons, List.flatMap_nil]
    unfold stT stW
    rw [if_neg (show ¬ Df.askB ⟨1, ⟨#[99, 97, 115, 104]⟩, 5, 0, ⟨#[]⟩, 3, 0⟩ = true by decide), if_pos (show Df.askB ⟨0, ⟨#[]⟩, 0, 2, ⟨#[104, 111, 116, 101, 108]⟩, 0, 20⟩ = true by decide)]
    simp only
    rw [dg_one 5 (by decide), dg_one 3 (by decide), dg_one 2 (by decide), dg_20]
    rfl
  unfold shE
  rw [if_pos trip_may, e]
theorem trip_in : ∀ s ∈ tripL, inS s := by
  intro s hs
  simp only [tripL, List.mem_cons, List.not_mem_nil, or_false] at hs
  rcases hs with rfl | rfl <;> exact ⟨by decide, by decide, by unfold inI; decide, by unfold inI; decide, by unfold inI; decide, by unfold inI; decide, by unfold inI; decide⟩

set_option maxHeartbeats 8000000 in
set_option maxRecDepth 100000 in
theorem awake_any (w : World) (he : Env w) : Calls Tryd.prog 9 #[] w fun e w' => e = .returned (.bool true) ∧ Gr w w' := by
  have H1 : Hid (∀ w', Calls Tryd.prog 19 #[.string ⟨#[115, 97, 103, 97, 32, 116, 114, 105, 112, 32, 123, 32, 100, 101, 98, 105, 116, 32, 99, 97, 115, 104, 32, 53, 32, 116, 114, 105, 101, 115, 32, 51, 59, 32, 97, 115, 107, 32, 50, 32, 104, 111, 116, 101, 108, 59, 32, 125]⟩] w' fun e w2 => TxR w' trip tripL 0 0 e w2) := by
    intro w'
    have := dText_any ⟨#[115, 97, 103, 97, 32, 116, 114, 105, 112, 32, 123, 32, 100, 101, 98, 105, 116, 32, 99, 97, 115, 104, 32, 53, 32, 116, 114, 105, 101, 115, 32, 51, 59, 32, 97, 115, 107, 32, 50, 32, 104, 111, 116, 101, 108, 59, 32, 125]⟩ w' (by decide)
    rw [show (⟨#[115, 97, 103, 97, 32, 116, 114, 105, 112, 32, 123, 32, 100, 101, 98, 105, 116, 32, 99, 97, 115, 104, 32, 53, 32, 116, 114, 105, 101, 115, 32, 51, 59, 32, 97, 115, 107, 32, 50, 32, 104, 111, 116, 101, 108, 59, 32, 125]⟩ : ByteArray).data.toList = [115, 97, 103, 97, 32, 116, 114, 105, 112, 32, 123, 32, 100, 101, 98, 105, 116, 32, 99, 97, 115, 104, 32, 53, 32, 116, 114, 105, 101, 115, 32, 51, 59, 32, 97, 115, 107, 32, 50, 32, 104, 111, 116, 101, 108, 59, 32, 125] from rfl, trip_text.1, trip_text.2.1, trip_text.2.2.1, trip_text.2.2.2] at this
    exact this
  have H2 : Hid (∀ w', Calls Tryd.prog 19 #[.string ⟨#[115, 97, 103, 97, 32, 116, 32, 123, 32, 100, 101, 98, 105, 116, 32, 99, 97, 115, 104, 59, 32, 125]⟩] w' fun e w2 => TxR w' ⟨#[]⟩ [] 81 19 e w2) := by
    intro w'
    have := dText_any ⟨#[115, 97, 103, 97, 32, 116, 32, 123, 32, 100, 101, 98, 105, 116, 32, 99, 97, 115, 104, 59, 32, 125]⟩ w' (by decide)
    rw [show (⟨#[115, 97, 103, 97, 32, 116, 32, 123, 32, 100, 101, 98, 105, 116, 32, 99, 97, 115, 104, 59, 32, 125]⟩ : ByteArray).data.toList = [115, 97, 103, 97, 32, 116, 32, 123, 32, 100, 101, 98, 105, 116, 32, 99, 97, 115, 104, 59, 32, 125] from rfl, t_text.1, t_text.2.1, t_text.2.2.1, t_text.2.2.2] at this
    exact this
  have H3 : Hid (∀ (a : Option Addr) (c : Nat) (w' : World), Gr w w' → StpsAt w' a tripL → Calls Tryd.prog 10 #[.agg #[.string trip, .slice a 2 c]] w' fun e w2 => e = .returned (.tuple #[.string ⟨#[115, 97, 103, 97, 32, 116, 114, 105, 112, 32, 123, 10, 32, 32, 100, 101, 98, 105, 116, 32, 99, 97, 115, 104, 32, 53, 32, 116, 114, 105, 101, 115, 32, 51, 59, 10, 32, 32, 97, 115, 107, 32, 50, 32, 104, 111, 116, 101, 108, 32, 119, 97, 105, 116, 32, 50, 48, 59, 10, 125, 10]⟩, .int .i64 0]) ∧ Gr w' w2) := by
    intro a c w' g h
    have := dShow_any trip tripL a c w' h (by decide) (by decide) trip_in (he.gr g)
    rw [trip_show, Df.ch_yes trip_may] at this
    exact this
  have H4 : Hid (∀ w', Calls Tryd.prog 12 #[.agg #[.string ⟨#[]⟩, .slice none 0 0]] w' fun e w2 => e = .returned (.int .i64 90) ∧ Gr w' w2) := fun w' => dCheck_any ⟨#[]⟩ [] none 0 w' RowAt.nil (by decide) (by decide) (by simp)
  clear he
  unfold trip at *
  go_enter Tryd.func9, Tryd.ntmps9
  go_wp2_with fail
  refine (H1.out _).mono ?_
  rintro e w1 ⟨a, c, rfl, hst, hlc, hfr, hg1⟩
  have HG1 : Hid (Gr w w1) := hg1
  have HS1 := Lib.hid hst
  have HD1 := Lib.hid ((TwoAt.new w1 (.string ⟨#[116, 114, 105, 112]⟩) (.slice a 2 c) 24 _ rfl).gr (Gr.refl _).alloc (w' := (w1.alloc (.cells #[.string ⟨#[116, 114, 105, 112]⟩, .slice a 2 c] 24)).alloc (.cells #[.int .i64 0, .int .i64 0] 37)))
  have HF1 := Lib.hid (TwoAt.new (w1.alloc (.cells #[.string ⟨#[116, 114, 105, 112]⟩, .slice a 2 c] 24)) (.int .i64 0) (.int .i64 0) 37 (w1.heap.size + 1) (by simp))
  clear hst hlc hfr hg1
  go_wp2_with fail
  refine (H2.out _).mono ?_
  rintro e w2 ⟨a2, c2, rfl, hst, hlc, hfr, hg2⟩
  have HG2 : Hid (Gr w w2) := HG1.out.alloc.alloc.trans hg2
  have HS2 := Lib.hid ((HS1.out.alloc.alloc).gr hg2)
  have HD2 := Lib.hid (HD1.out.gr hg2)
  have HF2 := Lib.hid (HF1.out.gr hg2)
  have HE2 := Lib.hid (TwoAt.new (w2.alloc (.cells #[.string ⟨#[]⟩, .slice a2 0 c2] 24)) (.int .i64 81) (.int .i64 19) 37 (w2.heap.size + 1) (by simp))
  obtain ⟨d0, d1, _, _, dl⟩ := HD2.out
  clear hst hlc hfr hg2 HD1 HF1 HS1
  go_wp2_with fail
  refine (H3.out a c _ HG2.out.alloc.alloc HS2.out.alloc.alloc).mono ?_
  rintro e w3 ⟨rfl, hg3⟩
  have HG3 : Hid (Gr w w3) := HG2.out.alloc.alloc.trans hg3
  obtain ⟨x0, x1, _, _, xl⟩ := (HD2.out.gr ((Gr.refl _).alloc.alloc)).gr hg3
  obtain ⟨y0, y1, _, _, yl⟩ := (HF2.out.gr ((Gr.refl _).alloc.alloc)).gr hg3
  obtain ⟨z0, z1, _, _, zl⟩ := HE2.out.gr hg3
  obtain ⟨b, off, rfl, hb, s0, s1, s2, s3, s4, s5, s6⟩ := StpsAt.at (HS2.out.alloc.alloc.gr hg3) 1 (by decide)
  have t0 : w3.cell? ⟨b, off + 1 * 7, none⟩ = some (.int .i64 0) := s0
  have t1 : w3.cell? ⟨b, off + 1 * 7 + 1, none⟩ = some (.string ⟨#[]⟩) := s1
  have t2 : w3.cell? ⟨b, off + 1 * 7 + 2, none⟩ = some (.int .i64 0) := s2
  have t3 : w3.cell? ⟨b, off + 1 * 7 + 3, none⟩ = some (.int .i64 2) := s3
  have t4 : w3.cell? ⟨b, off + 1 * 7 + 4, none⟩ = some (.string ⟨#[104, 111, 116, 101, 108]⟩) := s4
  have t5 : w3.cell? ⟨b, off + 1 * 7 + 5, none⟩ = some (.int .i64 0) := s5
  have t6 : w3.cell? ⟨b, off + 1 * 7 + 6, none⟩ = some (.int .i64 20) := s6
  clear s0 s1 s2 s3 s4 s5 s6 hg3 d0 d1 dl
  go_wp2_with fail
  refine (H4.out _).mono ?_
  rintro e w4 ⟨rfl, hg4⟩
  have HG4 : Hid (Gr w w4) := HG3.out.trans hg4
  clear hg4
  go_wp2
  go_ret
  exact ⟨rfl, HG4.out⟩
end Go.Proofs.YtdliljijgokpjaaDoor
namespace Go.Proofs.YtdliljijgokpjaaDoor
open Go.RowKit
open Lex (Tok ckE scT scF scA)
open Df (Stp St tk Gd prs pE pA pT pN pL)

theorem pA_ok {T : List Lex.Tok} {i : Int} (h : pE T i = 0) : pA T i = 0 := by
  unfold Df.pE at h
  unfold Df.pA
  by_cases h80 : ckE T = 80
  · rw [if_pos h80]
  · rw [if_neg h80] at h ⊢
    by_cases hat : 0 ≤ i ∧ i < T.length
    · rw [if_pos hat] at h ⊢
      cases ho : (prs T i.toNat).2 with
      | none => rw [ho] at h; cases h
      | some x =>
        obtain ⟨nm, L⟩ := x
        rw [ho] at h
        simp only at h ⊢
        cases hd : Df.defB nm L with
        | true => rfl
        | false => rw [Df.ch_no hd] at h; cases h
    · rw [if_neg hat]
theorem pN_no {T : List Lex.Tok} {i : Int} (h : pE T i ≠ 0) : pN T i = ⟨#[]⟩ ∧ pL T i = [] := by
  unfold Df.pN Df.pL
  rw [if_neg h, if_neg h]; exact ⟨rfl, rfl⟩

set_option maxHeartbeats 8000000 in
set_option maxRecDepth 100000 in
theorem refText_any (s : ByteArray) (w : World) (hsz : s.size ≤ 9223372036854775807) : Calls Tryd.prog 20 #[.string s] w fun e w' => TxR w (tN s.data.toList) (tL s.data.toList) (tE s.data.toList) (tA s.data.toList) e w' := by
  have hl : s.data.toList.length = s.size := by simp
  have HS : Hid (∀ w' : World, Calls Tryd.prog 42 #[.string s] w' fun e w2 => ∃ ad cap, e = .returned (.tuple #[.slice ad (scT s.data.toList).length cap, .agg #[.int .i64 (scF s.data.toList), .int .i64 (scA s.data.toList)]]) ∧ (scT s.data.toList).length ≤ cap ∧ ToksAt w2 ad (scT s.data.toList) ∧ (∀ a, ad = some a → w'.heap.size ≤ a.block) ∧ Gr w' w2) := fun w' => refScan_any s w'
  have HP : Hid (∀ (ad : Option Addr) (cap : Nat) (w' : World), ToksAt w' ad (scT s.data.toList) → (scT s.data.toList).length ≤ cap → Calls Tryd.prog 17 #[.slice ad (scT s.data.toList).length cap, .int .i64 0] w' fun e w2 => PaR w' (pN (scT s.data.toList) 0) (pL (scT s.data.toList) 0) (pT (scT s.data.toList) 0) (pE (scT s.data.toList) 0) (pA (scT s.data.toList) 0) e w2) := fun ad cap w' h _ => refParse_any _ ad cap 0 w' h (by have := Lex.scT_len s.data.toList; omega) (scT_size _ (by omega))
  have HTE : Hid (tE s.data.toList = if scF s.data.toList ≠ 0 then scF s.data.toList else if pE (scT s.data.toList) 0 ≠ 0 then pE (scT s.data.toList) 0 else if (tk (scT s.data.toList) (pT (scT s.data.toList) 0).toNat).k ≠ 0 then 81 else 0) := rfl
  have HTA : Hid (tA s.data.toList = if scF s.data.toList ≠ 0 then scA s.data.toList else if pE (scT s.data.toList) 0 ≠ 0 then pA (scT s.data.toList) 0 else if (tk (scT s.data.toList) (pT (scT s.data.toList) 0).toNat).k ≠ 0 then (tk (scT s.data.toList) (pT (scT s.data.toList) 0).toNat).p else 0) := rfl
  have HTN : Hid (tN s.data.toList = if tE s.data.toList = 0 then pN (scT s.data.toList) 0 else ⟨#[]⟩) := rfl
  have HTL : Hid (tL s.data.toList = if tE s.data.toList = 0 then pL (scT s.data.toList) 0 else []) := rfl
  have HPA : Hid (pE (scT s.data.toList) 0 = 0 → pA (scT s.data.toList) 0 = 0) := pA_ok
  have HPN : Hid (pE (scT s.data.toList) 0 ≠ 0 → pN (scT s.data.toList) 0 = ⟨#[]⟩ ∧ pL (scT s.data.toList) 0 = []) := pN_no
  have HPT : Hid (scF s.data.toList = 0 → pE (scT s.data.toList) 0 = 0 → (pT (scT s.data.toList) 0).toNat < (scT s.data.toList).length ∧ 0 ≤ pT (scT s.data.toList) 0) := fun h1 h2 => pT_lt (ck_scan h1) h2
  have HA0 := Lib.hid (TwoAt.new w (.string ⟨#[]⟩) (.slice none 0 0) 24 _ rfl)
  have HB0 := Lib.hid (TwoAt.new (w.alloc (.cells #[.string ⟨#[]⟩, .slice none 0 0] 24)) (.int .i64 0) (.int .i64 0) 37 (w.heap.size + 1) (by simp))
  clear hsz hl
  generalize tN s.data.toList = TN at *
  generalize tL s.data.toList = TL at *
  generalize tE s.data.toList = TE at *
  generalize tA s.data.toList = TA at *
  generalize scT s.data.toList = T at *
  generalize scF s.data.toList = SF at *
  generalize scA s.data.toList = SA at *
  generalize pN T 0 = PN at *
  generalize pL T 0 = PL at *
  generalize pE T 0 = PE at *
  generalize pA T 0 = PA at *
  generalize pT T 0 = PT at *
  go_enter Tryd.func20, Tryd.ntmps20
  go_wp2_with fail
  refine (HS.out _).mono ?_
  rintro e w1 ⟨ad, cap, rfl, hcp, htk, hfr, hg⟩
  have HG1 : Hid (Gr w w1) := (Gr.refl _).alloc.alloc.trans hg
  have HA1 := Lib.hid ((HA0.out.gr (Gr.refl _).alloc).gr hg)
  have HB1 := Lib.hid (HB0.out.gr hg)
  have HK1 := Lib.hid htk
  have HC1 := Lib.hid hcp
  have HF1 := Lib.hid (TwoAt.new w1 (.int .i64 SF) (.int .i64 SA) 37 _ rfl)
  clear hcp htk hfr hg HA0 HB0
  have n1 : ¬ w1.heap.size = w.heap.size := by have := HB1.out.lt; omega
  have n2 : ¬ w.heap.size = w1.heap.size := by have := HB1.out.lt; omega
  have n3 : ¬ w1.heap.size = w.heap.size + 1 := by have := HB1.out.lt; omega
  have n4 : ¬ w.heap.size + 1 = w1.heap.size := by have := HB1.out.lt; omega
  by_cases h1 : SF = 0
  · subst h1
    go_wp2_with fail
    refine (HP.out ad cap _ (HK1.out.gr (Gr.refl _).alloc) HC1.out).mono ?_
    rintro e w2 ⟨a, c, rfl, hst, hlc, hfr, hg⟩
    have HG2 : Hid (Gr w w2) := HG1.out.alloc.trans hg
    obtain ⟨a0, a1, af0, af1, al⟩ := (HA1.out.gr (Gr.refl _).alloc).gr hg
    obtain ⟨b0, b1, bf0, bf1, bl⟩ := (HB1.out.gr (Gr.refl _).alloc).gr hg
    obtain ⟨f0, f1, ff0, ff1, fl⟩ := HF1.out.gr hg
    have HS2 := Lib.hid hst
    have HE2 : Hid (PL.length ≤ c ∧ ∀ x, a = some x → w1.heap.size + 1 ≤ x.block) := ⟨hlc, fun x e => by have := hfr x e; simpa using this⟩
    have HN1 : Hid (w.heap.size + 1 < w1.heap.size) := HB1.out.lt
    have HK2 := Lib.hid ((HK1.out.gr (Gr.refl _).alloc).gr hg)
    have hn1 := HN1.out
    have m1 : ¬ w2.heap.size = w.heap.size := by omega
    have m2 : ¬ w.heap.size = w2.heap.size := by omega
    have m3 : ¬ w2.heap.size = w.heap.size + 1 := by omega
    have m4 : ¬ w.heap.size + 1 = w2.heap.size := by omega
    have m5 : ¬ w2.heap.size = w1.heap.size := by omega
    have m6 : ¬ w1.heap.size = w2.heap.size := by omega
    clear hst hlc hfr hg hn1
    by_cases h2 : PE = 0
    · subst h2
      obtain rfl : PA = 0 := HPA.out (by first | rfl | trivial)
      obtain ⟨p1, p2⟩ := HPT.out (by first | rfl | trivial) (by first | rfl | trivial)
      obtain ⟨j, hj⟩ : ∃ j : Nat, PT = (j : Int) := ⟨PT.toNat, by omega⟩
      subst hj
      rw [Int.toNat_natCast] at p1 HTE HTA
      obtain ⟨tb, off, rfl, htb, _, _, _⟩ := HK1.out j p1
      obtain ⟨tb', off', e, htb2, t0, t1, t2⟩ := HK2.out j p1
      cases e
      rw [← Df.tk_get T j p1] at t0 t1 t2
      generalize tk T j = x at *
      obtain ⟨xk, xt, xp⟩ := x
      simp only at *
      have nt : ¬ w1.heap.size = tb := by omega
      have nt' : ¬ tb = w1.heap.size := by omega
      have nt2 : ¬ w2.heap.size = tb := by omega
      have nt3 : ¬ tb = w2.heap.size := by omega
      by_cases h3 : xk = 0
      · subst h3
        have HV : Hid (TE = 0 ∧ TA = 0 ∧ TN = PN ∧ TL = PL) := by
          have q1 : TE = 0 := by rw [HTE.out, if_neg (by simp), if_neg (by simp), if_neg (by simp)]
          refine ⟨q1, ?_, ?_, ?_⟩
          · rw [HTA.out, if_neg (by simp), if_neg (by simp), if_neg (by simp)]
          · rw [HTN.out, if_pos q1]
          · rw [HTL.out, if_pos q1]
        clear HTE HTA HTN HTL
        go_wp2
        go_region
        go_wp2
        refine bodyPost_ret (v := .tuple #[.agg #[.string PN, .slice a PL.length c], .agg #[.int .i64 0, .int .i64 0]]) (by simp [results, Tryd.results20, go_sem, *]) rfl ?_
        rw [HV.out.1, HV.out.2.1, HV.out.2.2.1, HV.out.2.2.2]
        have hg2 := HG2.out
        have hn1 := HN1.out
        refine ⟨a, c, rfl, ?_, HE2.out.1, fun x e => by have := HE2.out.2 x e; omega, (by (repeat' (first | with_reducible exact Gr.refl _ | with_reducible refine Gr.set ?_ _ ?_ _ | with_reducible refine Gr.alloc ?_ | with_reducible refine Gr.drew ?_ | with_reducible refine Gr.trans ?_ (by assumption))) <;> (first | (simp; done) | (simp; omega) | omega))⟩
        repeat (first | with_reducible exact HS2.out | with_reducible refine RowAt.setFar ?_ _ _ (fun x e => by have := HE2.out.2 x e; simp; omega) | with_reducible refine RowAt.drew ?_ | with_reducible refine RowAt.alloc ?_ | with_reducible refine RowAt.gr ?_ ((Gr.refl _).drewN _))
      · have e3 : (xk != 0) = true := by simpa using h3
        have HV : Hid (TE = 81 ∧ TA = xp ∧ TN = ⟨#[]⟩ ∧ TL = []) := by
          have q1 : TE = 81 := by rw [HTE.out, if_neg (by simp), if_neg (by simp), if_pos h3]
          refine ⟨q1, ?_, ?_, ?_⟩
          · rw [HTA.out, if_neg (by simp), if_neg (by simp), if_pos h3]
          · rw [HTN.out, if_neg (by rw [q1]; decide)]
          · rw [HTL.out, if_neg (by rw [q1]; decide)]
        clear h3 HTE HTA HTN HTL
        go_wp2
        go_region
        go_wp2
        refine bodyPost_ret (v := .tuple #[.agg #[.string ⟨#[]⟩, .slice none 0 0], .agg #[.int .i64 81, .int .i64 xp]]) (by simp [results, Tryd.results20, go_sem, *]) rfl ?_
        rw [HV.out.1, HV.out.2.1, HV.out.2.2.1, HV.out.2.2.2]
        have hg2 := HG2.out
        have hn1 := HN1.out
        exact ⟨none, 0, rfl, RowAt.nil, by simp, (fun x e => by cases e), (by (repeat' (first | with_reducible exact Gr.refl _ | with_reducible refine Gr.set ?_ _ ?_ _ | with_reducible refine Gr.alloc ?_ | with_reducible refine Gr.drew ?_ | with_reducible refine Gr.trans ?_ (by assumption))) <;> (first | (simp; done) | (simp; omega) | omega))⟩
    · have e2 : (PE != 0) = true := by simpa using h2
      have e2' : (PE == 0) = false := by simpa using h2
      obtain ⟨hPN, hPL⟩ := HPN.out h2
      subst hPN hPL
      have HV : Hid (TE = PE ∧ TA = PA ∧ TN = ⟨#[]⟩ ∧ TL = []) := by
        have q1 : TE = PE := by rw [HTE.out, if_neg (by simp), if_pos h2]
        refine ⟨q1, ?_, ?_, ?_⟩
        · rw [HTA.out, if_neg (by simp), if_pos h2]
        · rw [HTN.out, if_neg (by rw [q1]; exact h2)]
        · rw [HTL.out, if_neg (by rw [q1]; exact h2)]
      clear h2 HTE HTA HTN HTL
      simp only [List.length_nil]
      go_wp2
      go_region
      go_wp2
      refine bodyPost_ret (v := .tuple #[.agg #[.string ⟨#[]⟩, .slice a 0 c], .agg #[.int .i64 PE, .int .i64 PA]]) (by simp [results, Tryd.results20, go_sem, *]) rfl ?_
      rw [HV.out.1, HV.out.2.1, HV.out.2.2.1, HV.out.2.2.2]
      have hg2 := HG2.out
      have hn1 := HN1.out
      exact ⟨a, c, rfl, RowAt.nil, by simp, fun x e => (by have := HE2.out.2 x e; omega), (by (repeat' (first | with_reducible exact Gr.refl _ | with_reducible refine Gr.set ?_ _ ?_ _ | with_reducible refine Gr.alloc ?_ | with_reducible refine Gr.drew ?_ | with_reducible refine Gr.trans ?_ (by assumption))) <;> (first | (simp; done) | (simp; omega) | omega))⟩
  · have e1 : (SF != 0) = true := by simpa using h1
    have HV : Hid (TE = SF ∧ TA = SA ∧ TN = ⟨#[]⟩ ∧ TL = []) := by
      have q1 : TE = SF := by rw [HTE.out, if_pos h1]
      refine ⟨q1, ?_, ?_, ?_⟩
      · rw [HTA.out, if_pos h1]
      · rw [HTN.out, if_neg (by rw [q1]; exact h1)]
      · rw [HTL.out, if_neg (by rw [q1]; exact h1)]
    clear h1 HTE HTA HTN HTL
    obtain ⟨a0, a1, af0, af1, al⟩ := HA1.out
    obtain ⟨b0, b1, bf0, bf1, bl⟩ := HB1.out
    go_wp2
    go_region
    go_wp2
    refine bodyPost_ret (v := .tuple #[.agg #[.string ⟨#[]⟩, .slice none 0 0], .agg #[.int .i64 SF, .int .i64 SA]]) (by simp [results, Tryd.results20, go_sem, *]) rfl ?_
    rw [HV.out.1, HV.out.2.1, HV.out.2.2.1, HV.out.2.2.2]
    have hg1 := HG1.out
    exact ⟨none, 0, rfl, RowAt.nil, by simp, (fun x e => by cases e), (by (repeat' (first | with_reducible exact Gr.refl _ | with_reducible refine Gr.set ?_ _ ?_ _ | with_reducible refine Gr.alloc ?_ | with_reducible refine Gr.drew ?_ | with_reducible refine Gr.trans ?_ (by assumption))) <;> (first | (simp; done) | (simp; omega) | omega))⟩
end Go.Proofs.YtdliljijgokpjaaDoor
namespace Go.Proofs.YtdliljijgokpjaaDoor
open Go.ChangeShapes Go.WideShapes Go.ChangeAt Go.RowKit
open Go.ChangeMaps (open_string shut_string)
open Df (Stp defB chE tk pE pA pT pN pL)
open Lex (Tok scT scF scA ckE)

set_option maxHeartbeats 8000000 in
set_option maxRecDepth 100000 in
theorem defTexts_walk (s : ByteArray) (w : World) (he : Env w) (hs : s.size ≤ 9223372036854775807) :
    Calls Tryd.prog 5 #[.string s] w fun e w' => e = .returned (.bool true) ∧ Gr w w' := by
  have HA : Hid (∀ w', Gr w w' → Calls Tryd.prog 9 #[] w' fun e w2 => e = .returned (.bool true) ∧ Gr w' w2) := fun w' g => awake_any w' (he.gr g)
  have HP : Hid (∀ w', Calls Tryd.prog 19 #[.string s] w' fun e w2 => TxR w' (tN s.data.toList) (tL s.data.toList) (tE s.data.toList) (tA s.data.toList) e w2) := fun w' => dText_any s w' hs
  have HR : Hid (∀ w', Calls Tryd.prog 20 #[.string s] w' fun e w2 => TxR w' (tN s.data.toList) (tL s.data.toList) (tE s.data.toList) (tA s.data.toList) e w2) := fun w' => refText_any s w' hs
  have hll : (tL s.data.toList).length ≤ 8 := by
    unfold tL
    split
    · exact pL_len _ _
    · simp
  have HQ : Hid (∀ (a b : Option Addr) (c d : Nat) (w' : World), StpsAt w' a (tL s.data.toList) → StpsAt w' b (tL s.data.toList) → Calls Tryd.prog 18 #[.agg #[.string (tN s.data.toList), .slice a (tL s.data.toList).length c], .agg #[.string (tN s.data.toList), .slice b (tL s.data.toList).length d]] w' fun e w2 => e = .returned (.bool true) ∧ Gr w' w2) := fun a b c d w' h1 h2 => by
    have := refEqual_any (tN s.data.toList) (tL s.data.toList) a c (tN s.data.toList) (tL s.data.toList) b d w' h1 h2 (by omega)
    rw [show eqD (tN s.data.toList) (tL s.data.toList) (tN s.data.toList) (tL s.data.toList) = true by unfold eqD; rw [decide_eq_true rfl, (eqL_iff _ _).2 rfl]; rfl] at this
    exact this
  generalize tN s.data.toList = PN at *
  generalize tL s.data.toList = PL at *
  generalize tE s.data.toList = PE at *
  generalize tA s.data.toList = PA at *
  clear he hs hll
  go_enter Tryd.func5, Tryd.ntmps5
  go_wp2_with fail
  refine (HP.out _).mono ?_
  rintro e w1 ⟨a, c, rfl, hst, _, _, hg⟩
  have HG1 : Hid (Gr w w1) := hg
  have HS1 := Lib.hid hst
  have HD1 := Lib.hid ((TwoAt.new w1 (.string PN) (.slice a PL.length c) 24 _ rfl).gr (Gr.refl _).alloc (w' := (w1.alloc (.cells #[.string PN, .slice a PL.length c] 24)).alloc (.cells #[.int .i64 PE, .int .i64 PA] 37)))
  have HF1 := Lib.hid (TwoAt.new (w1.alloc (.cells #[.string PN, .slice a PL.length c] 24)) (.int .i64 PE) (.int .i64 PA) 37 (w1.heap.size + 1) (by simp))
  clear hst hg
  go_wp2_with fail
  refine (HR.out _).mono ?_
  rintro e w2 ⟨a2, c2, rfl, hst, _, _, hg⟩
  have HG2 : Hid (Gr w w2) := HG1.out.alloc.alloc.trans hg
  have HS2 := Lib.hid ((HS1.out.alloc.alloc).gr hg)
  have HD2 := Lib.hid (HD1.out.gr hg)
  have HF2 := Lib.hid (HF1.out.gr hg)
  have HT2 := Lib.hid hst
  have HE2 := Lib.hid ((TwoAt.new (w2.alloc (.cells #[.string PN, .slice a2 PL.length c2] 24)) (.int .i64 PE) (.int .i64 PA) 37 (w2.heap.size + 1) (by simp)))
  obtain ⟨x0, x1, _, _, xl⟩ := HD2.out
  clear hst hg
  go_wp2_with fail
  refine (HQ.out a a2 c c2 _ HS2.out.alloc.alloc HT2.out.alloc.alloc).mono ?_
  rintro e w3 ⟨rfl, hg⟩
  have HG3 : Hid (Gr w w3) := HG2.out.alloc.alloc.trans hg
  obtain ⟨y0, y1, _, _, yl⟩ := (HF2.out.gr ((Gr.refl _).alloc.alloc)).gr hg
  obtain ⟨z0, z1, _, _, zl⟩ := HE2.out.gr hg
  clear hg x0 x1 xl
  go_wp2_with fail
  refine (HA.out _ HG3.out).mono ?_
  rintro e w4 ⟨rfl, hg⟩
  have HG4 : Hid (Gr w w4) := HG3.out.trans hg
  clear hg
  go_wp2
  go_ret
  exact ⟨rfl, HG4.out⟩

set_option maxRecDepth 100000 in
theorem defTexts_lifted (os : Os) (started : os.Started) (H : Type) (enc : TypeId × Value → H) :
    ReturnsInHanded {} Tryd.checked os 5 .any (fun w args => (Rows.defTextsSpec.pre enc Tryd.prog Tryd.f5 [] false w args ∧ laidMetH Tryd.prog laidL w) ∧ sizedMet enc Tryd.prog Tryd.f5 (OpenSpec.ofChange Rows.defTextsSpec) false w args)
      (Rows.defTextsSpec.post enc Tryd.prog Tryd.f5 false true false false) := by
  refine returnsInHanded_of_change_and (C := Tryd.checked) (X := fun w _ => laidMetH Tryd.prog laidL w) (fun _ _ _ hh h => h.of_heap hh) own2 started (by kernel_rfl) Tryd.func5
    (ChangeSpec.witness_shaped (enc := enc) (C := Tryd.checked) (os := os) (X := fun w _ => laidMetH Tryd.prog laidL w) false (World.doorLaid Tryd.prog 400 os) #[.string ⟨#[]⟩] 8 rfl (World.shaped_of_RefB (by kernel_rfl) (by kernel_rfl)) (by kernel_rfl) (by kernel_rfl) (by kernel_rfl) (door_met os _)) ?_
  intro W base args ds gs before hval0 hW _ hsz0 hL _
  have hval : ∀ (j : Nat) t v, Tryd.f5.params[j]? = some t → args[j]? = some v → Value.okWide Tryd.prog W .any base t v := hval0
  have hW' := hW
  obtain ⟨p, q, hA0, hV, rfl, hfz, hnd⟩ := hW
  have hA : DataW.TrodAll enc Tryd.prog W 0 (fun _ => true) true Tryd.f5.params.toList args.toList ds p := hA0
  rw [Tryd.params5] at hA hval
  obtain ⟨v0, d0, rfl, rfl, h0⟩ := trodAll_one hA
  obtain ⟨rfl, rfl⟩ := trodVars_none hV
  obtain ⟨a0, rfl, rfl, rfl, wa0⟩ := open_string Tryd.underlying9 (hval 0 9 v0 rfl rfl) h0
  have hr0 := len_max wa0
  clear hA0 hval0
  have hE := env_of_laid hL
  refine (defTexts_walk a0 W hE hr0).mono fun e W' ⟨he, hg⟩ => ?_
  subst he
  exact ⟨_, rfl, _, _, _, [], _, [], hW', trodAll_mk1 (shut_bool Tryd.underlying4 _), trodAll_mk1 (shut_string Tryd.underlying9 wa0), rfl, hg.below.frame _, fun h => by cases h⟩

theorem defTexts_holds : Rows.DefTextsSaid :=
  OpenClaim.holds_of_wide 5 Tryd.f5 rfl rfl rfl rfl rfl rfl rfl ⟨rfl, rfl, rfl, rfl, rfl⟩ rfl rfl rfl rfl rfl (by kernel_rfl) Tryd.func5 (by kernel_rfl)
    (of_decide_eq_true (by kernel_rfl)) (by unfold Func.isWrapper; first | (rw [if_pos (by decide +kernel)]; kernel_rfl) | (rw [if_neg (by decide +kernel)]; exact ⟨rfl, rfl⟩))
    (fun os started H enc _ => defTexts_lifted os started H enc)

theorem defTexts_card_holds : Rows.DefTextsCardSaid :=
  Claim7.holds_tied_plain_at .later [] [.data, .data, .data] true (true, "ae7bc6c80cafa693bbd408374e132e2c7b62b394d903cdd24dd968ac5e817c12") false
    defTexts_holds (fun _ h => by cases h) (by kernel_rfl) (fun _ h => by cases h) defTexts_row_tie rfl ⟨rfl, rfl⟩ (by kernel_rfl) rfl
    (fun f fn hf hfn => by
      obtain rfl : f = 5 := Option.some.inj ((show Tryd.prog.funcNamed "entente/ententelaw09.DefTexts" = some 5 by kernel_rfl).symm.trans hf) |>.symm
      obtain rfl : fn = Tryd.f5 := (Option.some.inj (Tryd.func5.symm.trans hfn)).symm
      exact ⟨by kernel_rfl, fun j t ht => by
        rw [Tryd.params5] at ht
        have hm : t ∈ [9] := by simpa using Array.mem_of_getElem? ht
        have hall : ([9].all fun u => !Tryd.prog.wantsStandIn u) = true := by kernel_rfl
        exact (show Tryd.prog.wantsStandIn t = false by simpa using List.all_eq_true.1 hall t hm)⟩)
    (by kernel_rfl)
end Go.Proofs.YtdliljijgokpjaaDoor
