/- For every input the law DefParses answers true: from any token of any tokens on the document's definition is read, or its fault told. -/
import Derived.Test.YtdliljijgokpjaaDoorDefV
import Derived.Test.YtdliljijgokpjaaDoorDefO
import Derived.Test.YtdliljijgokpjaaDoorDefW
import Derived.Test.YtdliljijgokpjaaDoorOpenD
import Derived.Test.YtdliljijgokpjaaDoorRefDq
import Derived.Test.YtdliljijgokpjaaDoorRefDr
import Derived.SevenTiedAt
namespace Go.Proofs.YtdliljijgokpjaaDoor
open Df (Stp defB chE stpB tk pE pA pT pN pL prs)
open Lex (Tok scT scF scA ckE)

theorem back_text {nm : ByteArray} {L : List Stp} (h : defB nm L = true) : tN (shT nm L) = nm ∧ tL (shT nm L) = L ∧ tE (shT nm L) = 0 ∧ tA (shT nm L) = 0 := by
  obtain ⟨hF, hB⟩ := scan_def h
  obtain ⟨_, _, _, h4⟩ := (Df.def_iff nm L).1 h
  have hck := ck_scan hF
  have hlen : (scT (shT nm L)).length = 6 * L.length + 5 := by rw [Lex.butL_len _ _ hB, dTk_len]
  have hp : prs (scT (shT nm L)) 0 = (6 * L.length + 4, some (nm, L)) := by rw [prs_but hB, prs_at nm L h4]
  have hk : (tk (scT (shT nm L)) (6 * L.length + 4)).k = 0 := by rw [(tk_but hB _).1, dTk_last]
  generalize hT : scT (shT nm L) = T at *
  have hat : (0 : Int) ≤ 0 ∧ (0 : Int) < T.length := by omega
  have e1 : pE T 0 = 0 := by
    unfold Df.pE
    rw [if_neg hck, if_pos hat, show (0 : Int).toNat = 0 from rfl, hp]
    exact Df.ch_yes h
  have e3 : pT T 0 = ((6 * L.length + 4 : Nat) : Int) := by unfold Df.pT; rw [if_pos e1, show (0 : Int).toNat = 0 from rfl, hp]
  have e4 : pN T 0 = nm := by unfold Df.pN; rw [if_pos e1, show (0 : Int).toNat = 0 from rfl, hp]
  have e5 : pL T 0 = L := by unfold Df.pL; rw [if_pos e1, show (0 : Int).toNat = 0 from rfl, hp]
  have t1 : tE (shT nm L) = 0 := by
    unfold tE
    rw [if_neg (by rw [hF]; decide), hT, if_neg (by rw [e1]; decide), e3, Int.toNat_natCast, if_neg (by rw [hk]; decide)]
  refine ⟨?_, ?_, t1, ?_⟩
  · unfold tN; rw [if_pos t1, hT, e4]
  · unfold tL; rw [if_pos t1, hT, e5]
  · unfold tA
    rw [if_neg (by rw [hF]; decide), hT, if_neg (by rw [e1]; decide), e3, Int.toNat_natCast, if_neg (by rw [hk]; decide)]
theorem read_may {l : List UInt8} (h : tE l = 0) : defB (tN l) (tL l) = true := by
  have hn : tN l = pN (scT l) 0 := by unfold tN; rw [if_pos h]
  have hl : tL l = pL (scT l) 0 := by unfold tL; rw [if_pos h]
  have hp : pE (scT l) 0 = 0 := by
    unfold tE at h
    by_cases h1 : scF l ≠ 0
    · rw [if_pos h1] at h; exact absurd h h1
    · rw [if_neg h1] at h
      by_cases h2 : pE (scT l) 0 ≠ 0
      · rw [if_pos h2] at h; exact absurd h h2
      · simpa using h2
  rw [hn, hl]
  unfold Df.pN Df.pL
  rw [if_pos hp, if_pos hp]
  unfold Df.pE at hp
  split at hp
  · cases hp
  · split at hp
    · cases ho : (prs (scT l) (0 : Int).toNat).2 with
      | none => rw [ho] at hp; cases hp
      | some x =>
        obtain ⟨nm, L⟩ := x
        rw [ho] at hp
        simp only at hp ⊢
        cases hd : defB nm L with
        | true => rfl
        | false => rw [Df.ch_no hd] at hp; cases hp
    · cases hp
theorem stp_in {s : Stp} (h : stpB s = true) : inS s := by
  unfold Df.stpB at h
  simp only [Bool.or_eq_true] at h
  rcases h with h | h
  · obtain ⟨p1, ab, p3, p4, y1, y2⟩ := (Df.own_iff s).1 h
    obtain ⟨⟨k1, k2⟩, nb, n1, n2⟩ := (Act.act_iff s.k s.a s.n).1 ab
    have hz := name_le nb
    have hu : s.u.size = 0 := by rw [p1]; rfl
    unfold inS inI
    refine ⟨by omega, by omega, by omega, by omega, by omega, by omega, by omega⟩
  · obtain ⟨n1, q1, q2, q3, q4, o1, o2, v1, v2⟩ := (Df.ask_iff s).1 h
    have hz := name_le n1
    have ha : s.a.size = 0 := by rw [q2]; rfl
    unfold inS inI
    refine ⟨by omega, by omega, by omega, by omega, by omega, by omega, by omega⟩
end Go.Proofs.YtdliljijgokpjaaDoor
namespace Go.Proofs.YtdliljijgokpjaaDoor
open Go.RowKit
open Df (Stp chE defB stpB)

def trip : ByteArray := ⟨#[116, 114, 105, 112]⟩
def tripL : List Stp := [⟨1, ⟨#[99, 97, 115, 104]⟩, 5, 0, ⟨#[]⟩, 3, 0⟩, ⟨0, ⟨#[]⟩, 0, 2, ⟨#[104, 111, 116, 101, 108]⟩, 0, 20⟩]
theorem trip_text : tE [115, 97, 103, 97, 32, 116, 114, 105, 112, 32, 123, 32, 100, 101, 98, 105, 116, 32, 99, 97, 115, 104, 32, 53, 32, 116, 114, 105, 101, 115, 32, 51, 59, 32, 97, 115, 107, 32, 50, 32, 104, 111, 116, 101, 108, 59, 32, 125] = 0 ∧ tA [115, 97, 103, 97, 32, 116, 114, 105, 112, 32, 123, 32, 100, 101, 98, 105, 116, 32, 99, 97, 115, 104, 32, 53, 32, 116, 114, 105, 101, 115, 32, 51, 59, 32, 97, 115, 107, 32, 50, 32, 104, 111, 116, 101, 108, 59, 32, 125] = 0 ∧ tN [115, 97, 103, 97, 32, 116, 114, 105, 112, 32, 123, 32, 100, 101, 98, 105, 116, 32, 99, 97, 115, 104, 32, 53, 32, 116, 114, 105, 101, 115, 32, 51, 59, 32, 97, 115, 107, 32, 50, 32, 104, 111, 116, 101, 108, 59, 32, 125] = trip ∧ tL [115, 97, 103, 97, 32, 116, 114, 105, 112, 32, 123, 32, 100, 101, 98, 105, 116, 32, 99, 97, 115, 104, 32, 53, 32, 116, 114, 105, 101, 115, 32, 51, 59, 32, 97, 115, 107, 32, 50, 32, 104, 111, 116, 101, 108, 59, 32, 125] = tripL := ⟨by rfl, by rfl, by rfl, by rfl⟩
theorem t_text : tE [115, 97, 103, 97, 32, 116, 32, 123, 32, 100, 101, 98, 105, 116, 32, 99, 97, 115, 104, 59, 32, 125] = 81 ∧ tA [115, 97, 103, 97, 32, 116, 32, 123, 32, 100, 101, 98, 105, 116, 32, 99, 97, 115, 104, 59, 32, 125] = 19 ∧ tN [115, 97, 103, 97, 32, 116, 32, 123, 32, 100, 101, 98, 105, 116, 32, 99, 97, 115, 104, 59, 32, 125] = ⟨#[]⟩ ∧ tL [115, 97, 103, 97, 32, 116, 32, 123, 32, 100, 101, 98, 105, 116, 32, 99, 97, 115, 104, 59, 32, 125] = [] := ⟨by rfl, by rfl, by rfl, by rfl⟩
theorem trip_may : defB trip tripL = true := by rfl
theorem dg_one (n : Int) (h : n.toNat < 10) : dg n = ⟨#[UInt8.ofNat (48 + n.toNat)]⟩ := by unfold dg; rw [Lib.decDigits_one h]
theorem dg_20 : dg 20 = ⟨#[50, 48]⟩ := by unfold dg; rw [show (20 : Int).toNat = 20 from rfl, Lib.decDigits_two (by omega) (by omega)]; rfl
theorem trip_show : shE trip tripL = ⟨#[115, 97, 103, 97, 32, 116, 114, 105, 112, 32, 123, 10, 32, 32, 100, 101, 98, 105, 116, 32, 99, 97, 115, 104, 32, 53, 32, 116, 114, 105, 101, 115, 32, 51, 59, 10, 32, 32, 97, 115, 107, 32, 50, 32, 104, 111, 116, 101, 108, 32, 119, 97, 105, 116, 32, 50, 48, 59, 10, 125, 10]⟩ := by
  have e : shT trip tripL = [115, 97, 103, 97, 32, 116, 114, 105, 112, 32, 123, 10, 32, 32, 100, 101, 98, 105, 116, 32, 99, 97, 115, 104, 32, 53, 32, 116, 114, 105, 101, 115, 32, 51, 59, 10, 32, 32, 97, 115, 107, 32, 50, 32, 104, 111, 116, 101, 108, 32, 119, 97, 105, 116, 32, 50, 48, 59, 10, 125, 10] := by
    unfold shT tripL
    simp only [List.flatMap_cons, List.flatMap_nil]
    unfold stT stW
    rw [if_neg (show ¬ Df.askB ⟨1, ⟨#[99, 97, 115, 104]⟩, 5, 0, ⟨#[]⟩, 3, 0⟩ = true by decide), if_pos (show Df.askB ⟨0, ⟨#[]⟩, 0, 2, ⟨#[104, 111, 116, 101, 108]⟩, 0, 20⟩ = true by decide)]
    simp only
    rw [dg_one 5 (by decide), dg_one 3 (by decide), dg_one 2 (by decide), dg_20]
    rfl
  unfold shE
  rw [if_pos trip_may, e]
theorem trip_in : ∀ s ∈ tripL, inS s := by
  intro s hs
  simp only [tripL, List.mem_cons, List.not_mem_nil, or_false] at hs
  rcases hs with rfl | rfl <;> exact ⟨by decide, by decide, by unfold inI; decide, by unfold inI; decide, by unfold inI; decide, by unfold inI; decide, by unfold inI; decide⟩

set_option maxHeartbeats 8000000 in
set_option maxRecDepth 100000 in
theorem awake_any (w : World) (he : Env w) : Calls Tryd.prog 9 #[] w fun e w' => e = .returned (.bool true) ∧ Gr w w' := by
  have H1 : Hid (∀ w', Calls Tryd.prog 19 #[.string ⟨#[115, 97, 103, 97, 32, 116, 114, 105, 112, 32, 123, 32, 100, 101, 98, 105, 116, 32, 99, 97, 115, 104, 32, 53, 32, 116, 114, 105, 101, 115, 32, 51, 59, 32, 97, 115, 107, 32, 50, 32, 104, 111, 116, 101, 108, 59, 32, 125]⟩] w' fun e w2 => TxR w' trip tripL 0 0 e w2) := by
    intro w'
    have := dText_any ⟨#[115, 97, 103, 97, 32, 116, 114, 105, 112, 32, 123, 32, 100, 101, 98, 105, 116, 32, 99, 97, 115, 104, 32, 53, 32, 116, 114, 105, 101, 115, 32, 51, 59, 32, 97, 115, 107, 32, 50, 32, 104, 111, 116, 101, 108, 59, 32, 125]⟩ w' (by decide)
    rw [show (⟨#[115, 97, 103, 97, 32, 116, 114, 105, 112, 32, 123, 32, 100, 101, 98, 105, 116, 32, 99, 97, 115, 104, 32, 53, 32, 116, 114, 105, 101, 115, 32, 51, 59, 32, 97, 115, 107, 32, 50, 32, 104, 111, 116, 101, 108, 59, 32, 125]⟩ : ByteArray).data.toList = [115, 97, 103, 97, 32, 116, 114, 105, 112, 32, 123, 32, 100, 101, 98, 105, 116, 32, 99, 97, 115, 104, 32, 53, 32, 116, 114, 105, 101, 115, 32, 51, 59, 32, 97, 115, 107, 32, 50, 32, 104, 111, 116, 101, 108, 59, 32, 125] from rfl, trip_text.1, trip_text.2.1, trip_text.2.2.1, trip_text.2.2.2] at this
    exact this
  have H2 : Hid (∀ w', Calls Tryd.prog 19 #[.string ⟨#[115, 97, 103, 97, 32, 116, 32, 123, 32, 100, 101, 98, 105, 116, 32, 99, 97, 115, 104, 59, 32, 125]⟩] w' fun e w2 => TxR w' ⟨#[]⟩ [] 81 19 e w2) := by
    intro w'
    have := dText_any ⟨#[115, 97, 103, 97, 32, 116, 32, 123, 32, 100, 101, 98, 105, 116, 32, 99, 97, 115, 104, 59, 32, 125]⟩ w' (by decide)
    rw [show (⟨#[115, 97, 103, 97, 32, 116, 32, 123, 32, 100, 101, 98, 105, 116, 32, 99, 97, 115, 104, 59, 32, 125]⟩ : ByteArray).data.toList = [115, 97, 103, 97, 32, 116, 32, 123, 32, 100, 101, 98, 105, 116, 32, 99, 97, 115, 104, 59, 32, 125] from rfl, t_text.1, t_text.2.1, t_text.2.2.1, t_text.2.2.2] at this
    exact this
  have H3 : Hid (∀ (a : Option Addr) (c : Nat) (w' : World), Gr w w' → StpsAt w' a tripL → Calls Tryd.prog 10 #[.agg #[.string trip, .slice a 2 c]] w' fun e w2 => e = .returned (.tuple #[.string ⟨#[115, 97, 103, 97, 32, 116, 114, 105, 112, 32, 123, 10, 32, 32, 100, 101, 98, 105, 116, 32, 99, 97, 115, 104, 32, 53, 32, 116, 114, 105, 101, 115, 32, 51, 59, 10, 32, 32, 97, 115, 107, 32, 50, 32, 104, 111, 116, 101, 108, 32, 119, 97, 105, 116, 32, 50, 48, 59, 10, 125, 10]⟩, .int .i64 0]) ∧ Gr w' w2) := by
    intro a c w' g h
    have := dShow_any trip tripL a c w' h (by decide) (by decide) trip_in (he.gr g)
    rw [trip_show, Df.ch_yes trip_may] at this
    exact this
  have H4 : Hid (∀ w', Calls Tryd.prog 12 #[.agg #[.string ⟨#[]⟩, .slice none 0 0]] w' fun e w2 => e = .returned (.int .i64 90) ∧ Gr w' w2) := fun w' => dCheck_any ⟨#[]⟩ [] none 0 w' RowAt.nil (by decide) (by decide) (by simp)
  clear he
  unfold trip at *
  go_enter Tryd.func9, Tryd.ntmps9
  go_wp2_with fail
  refine (H1.out _).mono ?_
  rintro e w1 ⟨a, c, rfl, hst, hlc, hfr, hg1⟩
  have HG1 : Hid (Gr w w1) := hg1
  have HS1 := Lib.hid hst
  have HD1 := Lib.hid ((TwoAt.new w1 (.string ⟨#[116, 114, 105, 112]⟩) (.slice a 2 c) 24 _ rfl).gr (Gr.refl _).alloc (w' := (w1.alloc (.cells #[.string ⟨#[116, 114, 105, 112]⟩, .slice a 2 c] 24)).alloc (.cells #[.int .i64 0, .int .i64 0] 37)))
  have HF1 := Lib.hid (TwoAt.new (w1.alloc (.cells #[.string ⟨#[116, 114, 105, 112]⟩, .slice a 2 c] 24)) (.int .i64 0) (.int .i64 0) 37 (w1.heap.size + 1) (by simp))
  clear hst hlc hfr hg1
  go_wp2_with fail
  refine (H2.out _).mono ?_
  rintro e w2 ⟨a2, c2, rfl, hst, hlc, hfr, hg2⟩
  have HG2 : Hid (Gr w w2) := HG1.out.alloc.alloc.trans hg2
  have HS2 := Lib.hid ((HS1.out.alloc.alloc).gr hg2)
  have HD2 := Lib.hid (HD1.out.gr hg2)
  have HF2 := Lib.hid (HF1.out.gr hg2)
  have HE2 := Lib.hid (TwoAt.new (w2.alloc (.cells #[.string ⟨#[]⟩, .slice a2 0 c2] 24)) (.int .i64 81) (.int .i64 19) 37 (w2.heap.size + 1) (by simp))
  obtain ⟨d0, d1, _, _, dl⟩ := HD2.out
  clear hst hlc hfr hg2 HD1 HF1 HS1
  go_wp2_with fail
  refine (H3.out a c _ HG2.out.alloc.alloc HS2.out.alloc.alloc).mono ?_
  rintro e w3 ⟨rfl, hg3⟩
  have HG3 : Hid (Gr w w3) := HG2.out.alloc.alloc.trans hg3
  obtain ⟨x0, x1, _, _, xl⟩ := (HD2.out.gr ((Gr.refl _).alloc.alloc)).gr hg3
  obtain ⟨y0, y1, _, _, yl⟩ := (HF2.out.gr ((Gr.refl _).alloc.alloc)).gr hg3
  obtain ⟨z0, z1, _, _, zl⟩ := HE2.out.gr hg3
  obtain ⟨b, off, rfl, hb, s0, s1, s2, s3, s4, s5, s6⟩ := StpsAt.at (HS2.out.alloc.alloc.gr hg3) 1 (by decide)
  have t0 : w3.cell? ⟨b, off + 1 * 7, none⟩ = some (.int .i64 0) := s0
  have t1 : w3.cell? ⟨b, off + 1 * 7 + 1, none⟩ = some (.string ⟨#[]⟩) := s1
  have t2 : w3.cell? ⟨b, off + 1 * 7 + 2, none⟩ = some (.int .i64 0) := s2
  have t3 : w3.cell? ⟨b, off + 1 * 7 + 3, none⟩ = some (.int .i64 2) := s3
  have t4 : w3.cell? ⟨b, off + 1 * 7 + 4, none⟩ = some (.string ⟨#[104, 111, 116, 101, 108]⟩) := s4
  have t5 : w3.cell? ⟨b, off + 1 * 7 + 5, none⟩ = some (.int .i64 0) := s5
  have t6 : w3.cell? ⟨b, off + 1 * 7 + 6, none⟩ = some (.int .i64 20) := s6
  clear s0 s1 s2 s3 s4 s5 s6 hg3 d0 d1 dl
  go_wp2_with fail
  refine (H4.out _).mono ?_
  rintro e w4 ⟨rfl, hg4⟩
  have HG4 : Hid (Gr w w4) := HG3.out.trans hg4
  clear hg4
  go_wp2
  go_ret
  exact ⟨rfl, HG4.out⟩
end Go.Proofs.YtdliljijgokpjaaDoor
namespace Go.Proofs.YtdliljijgokpjaaDoor
open Go.ChangeShapes Go.WideShapes Go.ChangeAt Go.RowKit
open Go.ChangeMaps (open_string shut_string)
open Df (Stp defB chE tk pE pA pT pN pL)
open Lex (Tok scT scF scA ckE)

set_option maxHeartbeats 8000000 in
set_option maxRecDepth 100000 in
theorem defParses_walk (T : List Lex.Tok) (ad : Option Addr) (cap : Nat) (at' : Int) (w : World) (he : Env w) (hT : ToksAt w ad T) (hc : T.length ≤ cap) (hr : ∀ x ∈ T, inK x) :
    Calls Tryd.prog 4 #[.slice ad T.length cap, .int .i64 at'] w fun e w' => e = .returned (.bool true) ∧ Gr w w' := by
  have HA : Hid (∀ w', Gr w w' → Calls Tryd.prog 9 #[] w' fun e w2 => e = .returned (.bool true) ∧ Gr w' w2) := fun w' g => awake_any w' (he.gr g)
  by_cases h3000 : (3000 : Int) < (T.length : Int)
  · clear hT hc hr he
    go_enter Tryd.func4, Tryd.ntmps4
    go_wp2_with fail
    refine (HA.out _ (Gr.refl _)).mono ?_
    rintro e w1 ⟨rfl, hg⟩
    have HG1 : Hid (Gr w w1) := hg
    clear hg
    go_wp2
    go_ret
    exact ⟨rfl, HG1.out⟩
  · have hn : T.length ≤ 5000 := by omega
    have hz : ∀ x ∈ T, x.t.size ≤ 9223372036854775807 := fun x hx => (hr x hx).2.1
    have HP : Hid (∀ w', Gr w w' → Calls Tryd.prog 16 #[.slice ad T.length cap, .int .i64 at'] w' fun e w2 => PaR w' (pN T at') (pL T at') (pT T at') (pE T at') (pA T at') e w2) := fun w' g => dParse_any T ad cap at' w' (hT.gr g) hc hn hz
    have HR : Hid (∀ w', Gr w w' → Calls Tryd.prog 17 #[.slice ad T.length cap, .int .i64 at'] w' fun e w2 => PaR w' (pN T at') (pL T at') (pT T at') (pE T at') (pA T at') e w2) := fun w' g => refParse_any T ad cap at' w' (hT.gr g) hn hz
    have hll := pL_len T at'
    have HQ : Hid (∀ (a b : Option Addr) (c d : Nat) (w' : World), StpsAt w' a (pL T at') → StpsAt w' b (pL T at') → Calls Tryd.prog 18 #[.agg #[.string (pN T at'), .slice a (pL T at').length c], .agg #[.string (pN T at'), .slice b (pL T at').length d]] w' fun e w2 => e = .returned (.bool true) ∧ Gr w' w2) := fun a b c d w' h1 h2 => by
      have := refEqual_any (pN T at') (pL T at') a c (pN T at') (pL T at') b d w' h1 h2 (by omega)
      rw [show eqD (pN T at') (pL T at') (pN T at') (pL T at') = true by unfold eqD; rw [decide_eq_true rfl, (eqL_iff _ _).2 rfl]; rfl] at this
      exact this
    generalize pN T at' = PN at *
    generalize pL T at' = PL at *
    generalize pT T at' = PT at *
    generalize pE T at' = PE at *
    generalize pA T at' = PA at *
    clear hT hc hr he hz hn hll
    go_enter Tryd.func4, Tryd.ntmps4
    go_wp2_with fail
    refine (HP.out _ (Gr.refl _)).mono ?_
    rintro e w1 ⟨a, c, rfl, hst, _, _, hg⟩
    have HG1 : Hid (Gr w w1) := hg
    have HS1 := Lib.hid hst
    have HD1 := Lib.hid ((TwoAt.new w1 (.string PN) (.slice a PL.length c) 24 _ rfl).gr (Gr.refl _).alloc (w' := (w1.alloc (.cells #[.string PN, .slice a PL.length c] 24)).alloc (.cells #[.int .i64 PE, .int .i64 PA] 37)))
    have HF1 := Lib.hid (TwoAt.new (w1.alloc (.cells #[.string PN, .slice a PL.length c] 24)) (.int .i64 PE) (.int .i64 PA) 37 (w1.heap.size + 1) (by simp))
    clear hst hg
    go_wp2_with fail
    refine (HR.out _ HG1.out.alloc.alloc).mono ?_
    rintro e w2 ⟨a2, c2, rfl, hst, _, _, hg⟩
    have HG2 : Hid (Gr w w2) := HG1.out.alloc.alloc.trans hg
    have HS2 := Lib.hid ((HS1.out.alloc.alloc).gr hg)
    have HD2 := Lib.hid (HD1.out.gr hg)
    have HF2 := Lib.hid (HF1.out.gr hg)
    have HT2 := Lib.hid hst
    have HE2 := Lib.hid ((TwoAt.new (w2.alloc (.cells #[.string PN, .slice a2 PL.length c2] 24)) (.int .i64 PE) (.int .i64 PA) 37 (w2.heap.size + 1) (by simp)))
    obtain ⟨x0, x1, _, _, xl⟩ := HD2.out
    clear hst hg
    go_wp2_with fail
    refine (HQ.out a a2 c c2 _ HS2.out.alloc.alloc HT2.out.alloc.alloc).mono ?_
    rintro e w3 ⟨rfl, hg⟩
    have HG3 : Hid (Gr w w3) := HG2.out.alloc.alloc.trans hg
    obtain ⟨y0, y1, _, _, yl⟩ := (HF2.out.gr ((Gr.refl _).alloc.alloc)).gr hg
    obtain ⟨z0, z1, _, _, zl⟩ := HE2.out.gr hg
    have q1 : (PT == PT) = true := by simp
    clear hg x0 x1 xl
    go_wp2_with fail
    refine (HA.out _ HG3.out).mono ?_
    rintro e w4 ⟨rfl, hg⟩
    have HG4 : Hid (Gr w w4) := HG3.out.trans hg
    clear hg
    go_wp2
    go_ret
    exact ⟨rfl, HG4.out⟩

set_option maxRecDepth 100000 in
theorem defParses_lifted (os : Os) (started : os.Started) (H : Type) (enc : TypeId × Value → H) :
    ReturnsInHanded {} Tryd.checked os 4 .any (fun w args => (Rows.defParsesSpec.pre enc Tryd.prog Tryd.f4 [] false w args ∧ laidMetH Tryd.prog laidL w) ∧ sizedMet enc Tryd.prog Tryd.f4 (OpenSpec.ofChange Rows.defParsesSpec) false w args)
      (Rows.defParsesSpec.post enc Tryd.prog Tryd.f4 false true false false) := by
  refine returnsInHanded_of_change_and (C := Tryd.checked) (X := fun w _ => laidMetH Tryd.prog laidL w) (fun _ _ _ hh h => h.of_heap hh) own2 started (by kernel_rfl) Tryd.func4
    (ChangeSpec.witness_shaped (enc := enc) (C := Tryd.checked) (os := os) (X := fun w _ => laidMetH Tryd.prog laidL w) false (World.doorLaid Tryd.prog 400 os) #[.slice none 0 0, .int .i64 0] 8 rfl (World.shaped_of_RefB (by kernel_rfl) (by kernel_rfl)) (by kernel_rfl) (by kernel_rfl) (by kernel_rfl) (door_met os _)) ?_
  intro W base args ds gs before hval0 hW _ hsz0 hL _
  have hval : ∀ (j : Nat) t v, Tryd.f4.params[j]? = some t → args[j]? = some v → Value.okWide Tryd.prog W .any base t v := hval0
  have hW' := hW
  obtain ⟨p, q, hA0, hV, rfl, hfz, hnd⟩ := hW
  have hA : DataW.TrodAll enc Tryd.prog W 0 (fun _ => true) true Tryd.f4.params.toList args.toList ds p := hA0
  rw [Tryd.params4] at hA hval
  obtain ⟨v0, v1, d0, d1, p0, p1, rfl, rfl, rfl, h0, h1⟩ := trodAll_two hA
  obtain ⟨rfl, rfl⟩ := trodVars_none hV
  have k0 := h0
  have lt0 : ∀ x ∈ p0, x.block < W.heap.size := by obtain ⟨m, hm⟩ := k0; exact DataW.trod_lt m _ _ _ hm
  obtain ⟨ad0, cap0, T0, rfl, hT0, hc0, hn0, hr0⟩ := open_toks (hval 0 35 v0 rfl rfl) h0
  obtain ⟨a1, rfl, rfl, rfl, wa1⟩ := open_int Tryd.underlying3 (hval 1 3 v1 rfl rfl) h1
  have rg1 := rng_i64 wa1
  clear hA0 hval0
  have hE := env_of_laid hL
  refine (defParses_walk T0 ad0 cap0 a1 W hE hT0 hc0 hr0).mono fun e W' ⟨he, hg⟩ => ?_
  subst he
  exact ⟨_, rfl, _, _, _, [], _, [], hW', trodAll_mk1 (shut_bool Tryd.underlying4 _), trodAll_mk2 (Below.trod laidOut2 (by kernel_rfl) (of_decide_eq_true (by kernel_rfl)) k0 hg.below lt0) (shut_int Tryd.underlying3 wa1), rfl, hg.below.frame _, fun h => by cases h⟩

theorem defParses_holds : Rows.DefParsesSaid :=
  OpenClaim.holds_of_wide 4 Tryd.f4 rfl rfl rfl rfl rfl rfl rfl ⟨rfl, rfl, rfl, rfl, rfl⟩ rfl rfl rfl rfl rfl (by kernel_rfl) Tryd.func4 (by kernel_rfl)
    (of_decide_eq_true (by kernel_rfl)) (by unfold Func.isWrapper; first | (rw [if_pos (by decide +kernel)]; kernel_rfl) | (rw [if_neg (by decide +kernel)]; exact ⟨rfl, rfl⟩))
    (fun os started H enc _ => defParses_lifted os started H enc)

theorem defParses_card_holds : Rows.DefParsesCardSaid :=
  Claim7.holds_tied_plain_at .later [] [.data, .data, .data] true (true, "ae7bc6c80cafa693bbd408374e132e2c7b62b394d903cdd24dd968ac5e817c12") false
    defParses_holds (fun _ h => by cases h) (by kernel_rfl) (fun _ h => by cases h) defParses_row_tie rfl ⟨rfl, rfl⟩ (by kernel_rfl) rfl
    (fun f fn hf hfn => by
      obtain rfl : f = 4 := Option.some.inj ((show Tryd.prog.funcNamed "entente/ententelaw09.DefParses" = some 4 by kernel_rfl).symm.trans hf) |>.symm
      obtain rfl : fn = Tryd.f4 := (Option.some.inj (Tryd.func4.symm.trans hfn)).symm
      exact ⟨by kernel_rfl, fun j t ht => by
        rw [Tryd.params4] at ht
        have hm : t ∈ [35, 3] := by simpa using Array.mem_of_getElem? ht
        have hall : ([35, 3].all fun u => !Tryd.prog.wantsStandIn u) = true := by kernel_rfl
        exact (show Tryd.prog.wantsStandIn t = false by simpa using List.all_eq_true.1 hall t hm)⟩)
    (by kernel_rfl)
end Go.Proofs.YtdliljijgokpjaaDoor
