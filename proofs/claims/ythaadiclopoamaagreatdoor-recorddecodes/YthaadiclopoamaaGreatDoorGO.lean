/- Parts of these proofs, laid together. -/
import Derived.Test.YthaadiclopoamaaGreatDoorGN
import Derived.Test.YthaadiclopoamaaGreatDoorGC
import Derived.Test.YthaadiclopoamaaGreatDoorGL
import Derived.Test.YthaadiclopoamaaGreatDoorGE
import Derived.Lib.JoinLaws
import Derived.Deep.DeepCutAuto
import Derived.Test.YthaadiclopoamaaGreatDoorGM
import Derived.Test.YthaadiclopoamaaGreatDoorGA
/- Plain mathematics: the text of a definition is read as it; what is read may be. -/
set_option maxRecDepth 100000
set_option maxHeartbeats 8000000
namespace Go.Proofs.YthaadiclopoamaaGreatDoor
open Df (Stp defB chE stpB tk pE pA pT pN pL prs)
open Lex (Tok scT scF scA ckE)

theorem back_text {nm : ByteArray} {L : List Stp} (h : defB nm L = true) : tN (shT nm L) = nm /\ tL (shT nm L) = L /\ tE (shT nm L) = 0 /\ tA (shT nm L) = 0 := by
 obtain ⟨hF, hB⟩ := scan_def h
 obtain ⟨_, _, _, h4⟩ := (Df.def_iff nm L).1 h
 have hck := ck_scan hF
 have hlen : (scT (shT nm L)).length = 6 * L.length + 5 := by rw [Lex.butL_len _ _ hB, dTk_len]
 have hp : prs (scT (shT nm L)) 0 = (6 * L.length + 4, some (nm, L)) := by rw [prs_but hB, prs_at nm L h4]
 have hk : (tk (scT (shT nm L)) (6 * L.length + 4)).k = 0 := by rw [(tk_but hB _).1, dTk_last]
 generalize hT : scT (shT nm L) = T at *
 have hat : (0 : Int) <= 0 /\ (0 : Int) < T.length := by omega
 have e1 : pE T 0 = 0 := by
  unfold Df.pE
  rw [if_neg hck, if_pos hat, show (0 : Int).toNat = 0 from rfl, hp]
  exact Df.ch_yes h
 have e3 : pT T 0 = ((6 * L.length + 4 : Nat) : Int) := by unfold Df.pT; rw [if_pos e1, show (0 : Int).toNat = 0 from rfl, hp]
 have e4 : pN T 0 = nm := by unfold Df.pN; rw [if_pos e1, show (0 : Int).toNat = 0 from rfl, hp]
 have e5 : pL T 0 = L := by unfold Df.pL; rw [if_pos e1, show (0 : Int).toNat = 0 from rfl, hp]
 have t1 : tE (shT nm L) = 0 := by
  unfold tE
  rw [if_neg (by rw [hF]; decide), hT, if_neg (by rw [e1]; decide), e3, Int.toNat_natCast, if_neg (by rw [hk]; decide)]
 refine ⟨?_, ?_, t1, ?_⟩
 ·unfold tN; rw [if_pos t1, hT, e4]
 ·unfold tL; rw [if_pos t1, hT, e5]
 ·unfold tA
  rw [if_neg (by rw [hF]; decide), hT, if_neg (by rw [e1]; decide), e3, Int.toNat_natCast, if_neg (by rw [hk]; decide)]
theorem read_may {l : List UInt8} (h : tE l = 0) : defB (tN l) (tL l) = true := by
 have hn : tN l = pN (scT l) 0 := by unfold tN; rw [if_pos h]
 have hl : tL l = pL (scT l) 0 := by unfold tL; rw [if_pos h]
 have hp : pE (scT l) 0 = 0 := by
  unfold tE at h
  by_cases h1 : scF l ≠ 0
  ·rw [if_pos h1] at h; exact absurd h h1
  ·rw [if_neg h1] at h
   by_cases h2 : pE (scT l) 0 ≠ 0
   ·rw [if_pos h2] at h; exact absurd h h2
   ·simpa using h2
 rw [hn, hl]
 unfold Df.pN Df.pL
 rw [if_pos hp, if_pos hp]
 unfold Df.pE at hp
 split at hp
 ·cases hp
 ·split at hp
  ·cases ho : (prs (scT l) (0 : Int).toNat).2 with
   | none => rw [ho] at hp; cases hp
   | some x =>
    obtain ⟨nm, L⟩ := x
    rw [ho] at hp
    simp only at hp ⊢
    cases hd : defB nm L with
    | true => rfl
    | false => rw [Df.ch_no hd] at hp; cases hp
  ·cases hp
theorem stp_in {s : Stp} (h : stpB s = true) : inS s := by
 unfold Df.stpB at h
 simp only [Bool.or_eq_true] at h
 rcases h with h | h
 ·obtain ⟨p1, ab, p3, p4, y1, y2⟩ := (Df.own_iff s).1 h
  obtain ⟨⟨k1, k2⟩, nb, n1, n2⟩ := (Act.act_iff s.k s.a s.n).1 ab
  have hz := name_le nb
  have hu : s.u.size = 0 := by rw [p1]; rfl
  unfold inS inI
  refine ⟨by omega, by omega, by omega, by omega, by omega, by omega, by omega⟩
 ·obtain ⟨n1, q1, q2, q3, q4, o1, o2, v1, v2⟩ := (Df.ask_iff s).1 h
  have hz := name_le n1
  have ha : s.a.size = 0 := by rw [q2]; rfl
  unfold inS inI
  refine ⟨by omega, by omega, by omega, by omega, by omega, by omega, by omega⟩
end Go.Proofs.YthaadiclopoamaaGreatDoor
/- def: the words of a step. -/
set_option maxRecDepth 100000
set_option maxHeartbeats 8000000
namespace Go.Proofs.YthaadiclopoamaaGreatDoor
open Go.RowKit
open Df (Stp ownB askB stpB defB chE wk)
open _root_.Go.Proofs.YthaadiclopoamaaGreatDoor.Act (nameB)

/- the table of powers lies there -/
theorem lItoa_any (n : Int) (w : World) (h0 : 0 <= n) (h1 : n < 100) : Calls Tryz.prog 23 #[.int .i64 n] w fun e w' => e = .returned (.string (dg n)) /\ Gr w w' := by
 have := Tryz.strconv_Itoa_small n.toNat (by omega) w
 rw [show ((n.toNat : Nat) : Int) = n by omega] at this
 refine this.mono ?_
 rintro e w' ⟨rfl, hw⟩
 rw [hw]
 exact ⟨rfl, Gr.refl _⟩
theorem formatInt_any (n : Int) (w : World) (h0 : 0 <= n) (h1 : n <= 9223372036854775807) (he : Env w) : Calls Tryz.prog 111 #[.int .i64 n, .int .i64 10] w fun e w' => e = .returned (.string (dg n)) /\ Gr w w' := by
 refine (Tryz.strconv_FormatInt_10 n (by omega) h1 w he.tab).mono ?_
 rintro e w' ⟨rfl, k, obs, rfl⟩
 refine ⟨?_, gr_grow w k obs⟩
 have : Lib.itoa n = Lib.decDigits n.toNat := by
  unfold Lib.itoa
  rw [if_neg (by omega)]
 rw [this]; rfl

def StrsIn (w : World) (g : Nat) (xs : List ByteArray) : Prop := ∀ (j : Nat) x, xs[j]? = some x -> w.cell? ⟨g, 0 + j, none⟩ = some (.string x)
theorem strs_new (w : World) (a b c d e : ByteArray) (t : TypeId) : StrsIn (w.alloc (.cells #[.string a, .string b, .string c, .string d, .string e] t)) w.heap.size [a, b, c, d, e] := by
 intro j x hx
 have hj : j < 5 := by
  have := (List.getElem?_eq_some_iff.1 hx).1
  simpa using this
 match j, hj with
 | 0, _ => simp at hx; subst hx; simp
 | 1, _ => simp at hx; subst hx; simp
 | 2, _ => simp at hx; subst hx; simp
 | 3, _ => simp at hx; subst hx; simp
 | 4, _ => simp at hx; subst hx; simp
theorem holdW {a b : World} {g : Nat} {v0 v1 v2 v3 v4 v5 v6 : Value} (h : AccAt a g v0 v1 v2 v3 v4 v5 v6) (k : Gr a b) : Gr a b /\ b.cell? ⟨g, 0, none⟩ = some v0 /\ b.cell? ⟨g, 1, none⟩ = some v1 /\ b.cell? ⟨g, 2, none⟩ = some v2 /\ b.cell? ⟨g, 3, none⟩ = some v3 /\ b.cell? ⟨g, 4, none⟩ = some v4 /\ b.cell? ⟨g, 5, none⟩ = some v5 /\ b.cell? ⟨g, 6, none⟩ = some v6 :=
 ⟨k, k.keep h.c0, k.keep h.c1, k.keep h.c2, k.keep h.c3, k.keep h.c4, k.keep h.c5, k.keep h.c6⟩
def WdR (w : World) (xs : List ByteArray) (e : Ending) (w' : World) : Prop := ∃ g, e = .returned (.slice (some ⟨g, 0, none⟩) 5 5) /\ g < w'.heap.size /\ StrsIn w' g xs /\ Gr w w'

theorem words_any (s : Stp) (w : World) (hs : inS s) (hb : stpB s = true) (he : Env w) : Calls Tryz.prog 90 #[.agg #[.int .i64 s.k, .string s.a, .int .i64 s.n, .int .i64 s.o, .string s.u, .int .i64 s.y, .int .i64 s.v]] w fun e w' => WdR w (stW s) e w' := by
 have HA : Hid (∀ w', Calls Tryz.prog 88 #[.agg #[.int .i64 s.k, .string s.a, .int .i64 s.n, .int .i64 s.o, .string s.u, .int .i64 s.y, .int .i64 s.v]] w' fun e w2 => e = .returned (.bool (askB s)) /\ Gr w' w2) := fun w' => asks_any s w' hs
 have HX0 := Lib.hid (AccAt.new w (.int .i64 s.k) (.string s.a) (.int .i64 s.n) (.int .i64 s.o) (.string s.u) (.int .i64 s.y) (.int .i64 s.v) 94 _ rfl)
 have HW : Hid (stW s = if askB s = true then [Df.wAsk, dg s.o, s.u, Df.wWait, dg s.v] else [wk s.k, s.a, dg s.n, Df.wTries, dg s.y]) := rfl
 have HE : Hid (Env w) := he
 cases hk : askB s with
 | true =>
  have hq := (Df.ask_iff s).1 hk
  have o1 := hq.2.2.2.2.2.1
  have o2 := hq.2.2.2.2.2.2.1
  have v1 := hq.2.2.2.2.2.2.2.1
  have v2 := hq.2.2.2.2.2.2.2.2
  clear hq
  have H1 : Hid (∀ w', Calls Tryz.prog 23 #[.int .i64 s.o] w' fun e w2 => e = .returned (.string (dg s.o)) /\ Gr w' w2) := fun w' => lItoa_any s.o w' o1 (by omega)
  have H2 : Hid (∀ w', Calls Tryz.prog 23 #[.int .i64 s.v] w' fun e w2 => e = .returned (.string (dg s.v)) /\ Gr w' w2) := fun w' => lItoa_any s.v w' (by omega) (by omega)
  rw [hk] at HA HW
  rw [if_pos rfl] at HW
  clear hk hs hb he o1 o2 v1 v2
  generalize stW s = WS at *
  generalize dg s.o = DO at *
  generalize dg s.v = DV at *
  go_enter Tryz.func90, Tryz.ntmps90
  go_wp2_with fail
  refine (HA.out _).mono ?_
  rintro e w1 ⟨rfl, hg⟩
  have HX1 := Lib.hid (HX0.out.gr hg)
  have HG1 : Hid (Gr w w1) := (Gr.refl _).alloc.trans hg
  obtain ⟨x0, x1, x2, x3, x4, x5, x6⟩ := HX1.out.cells
  have xl := HX1.out.lt
  clear hg
  go_upto_region 2 with fail
  refine wp_region_held_drew (S := (fun w' => Gr w1 w' /\ w'.cell? ⟨w.heap.size, 0, none⟩ = some (.int .i64 s.k) /\ w'.cell? ⟨w.heap.size, 1, none⟩ = some (.string s.a) /\ w'.cell? ⟨w.heap.size, 2, none⟩ = some (.int .i64 s.n) /\ w'.cell? ⟨w.heap.size, 3, none⟩ = some (.int .i64 s.o) /\ w'.cell? ⟨w.heap.size, 4, none⟩ = some (.string s.u) /\ w'.cell? ⟨w.heap.size, 5, none⟩ = some (.int .i64 s.y) /\ w'.cell? ⟨w.heap.size, 6, none⟩ = some (.int .i64 s.v))) (by kernel_rfl) (by exact holdW HX1.out (by (with_reducible repeat' (first | exact Gr.refl _ | refine Gr.set ?_ _ ?_ _ | refine Gr.alloc ?_ | refine Gr.drew ?_ | refine Gr.trans ?_ (by assumption))) <;> (first | (simp; done) | (simp; omega) | omega))) (fun hHeld => ?_)
  refine ty 0 5 hHeld ?_
  refine ty 1 6 hHeld ?_
  refine ty 3 8 hHeld ?_
  refine ty 4 9 hHeld ?_
  refine ty 5 10 hHeld ?_
  refine ty 6 11 hHeld ?_
  refine wpAnyH_ready (rs := [2]) (by kernel_rfl) (by simp) (AllReadyH.cons rfl (fun K hK => ?_) AllReadyH.nil)
  go_simp
  refine (H1.out _).mono ?_; rintro e w2 ⟨rfl, hg2⟩
  (try go_wp2_with fail)
  refine hK.out _ _ (by exact holdW HX1.out (by (with_reducible repeat' (first | exact Gr.refl _ | refine Gr.set ?_ _ ?_ _ | refine Gr.alloc ?_ | refine Gr.drew ?_ | refine Gr.trans ?_ (by assumption))) <;> (first | (simp; done) | (simp; omega) | omega))) (fun hHeldN => ?_)
  clear hHeld hK K
  have hHeld := hHeldN
  clear hHeldN
  refine wpAnyH_ready (rs := [7]) (by kernel_rfl) (by simp) (AllReadyH.cons rfl (fun K hK => ?_) AllReadyH.nil)
  go_simp
  refine (H2.out _).mono ?_; rintro e w3 ⟨rfl, hg3⟩
  (try go_wp2_with fail)
  refine hK.out _ _ (by exact holdW HX1.out (by (with_reducible repeat' (first | exact Gr.refl _ | refine Gr.set ?_ _ ?_ _ | refine Gr.alloc ?_ | refine Gr.drew ?_ | refine Gr.trans ?_ (by assumption))) <;> (first | (simp; done) | (simp; omega) | omega))) (fun hHeldN => ?_)
  clear hHeld hK K
  have hHeld := hHeldN
  clear hHeldN
  refine wpAnyH_ready (rs := [8]) (by kernel_rfl) (by simp) (AllReadyH.cons rfl (fun K hK => ?_) AllReadyH.nil)
  go_simp
  refine hK.out _ _ (by exact holdW HX1.out (by (with_reducible repeat' (first | exact Gr.refl _ | refine Gr.set ?_ _ ?_ _ | refine Gr.alloc ?_ | refine Gr.drew ?_ | refine Gr.trans ?_ (by assumption))) <;> (first | (simp; done) | (simp; omega) | omega))) (fun hHeldN => ?_)
  clear hHeld hK K
  have hHeld := hHeldN
  clear hHeldN
  refine ty 9 2 hHeld ?_
  refine wpAnyH_done (by kernel_rfl) ?_ _
  go_wp2
  go_ret
  refine ⟨w3.heap.size, rfl, by simp, ?_, HG1.out.trans (by (with_reducible repeat' (first | exact Gr.refl _ | refine Gr.set ?_ _ ?_ _ | refine Gr.alloc ?_ | refine Gr.drew ?_ | refine Gr.trans ?_ (by assumption))) <;> (first | (simp; done) | (simp; omega) | omega))⟩
  rw [HW.out]
  exact strs_new w3 _ _ _ _ _ _
 | false =>
  have hob : ownB s = true := by unfold Df.stpB at hb; rw [hk] at hb; simpa using hb
  have hq := (Df.own_iff s).1 hob
  have ab := hq.2.1
  have y1 := hq.2.2.2.2.1
  have y2 := hq.2.2.2.2.2
  have n1 := ((Act.act_iff s.k s.a s.n).1 ab).2.2.1
  have n2 := ((Act.act_iff s.k s.a s.n).1 ab).2.2.2
  clear hq
  have H0 : Hid (∀ w', Calls Tryz.prog 110 #[.int .i64 s.k] w' fun e w2 => e = .returned (.string (wk s.k)) /\ Gr w' w2) := fun w' => kindWord_any s.k w'
  have H1 : Hid (∀ w', Gr w w' -> Calls Tryz.prog 111 #[.int .i64 s.n, .int .i64 10] w' fun e w2 => e = .returned (.string (dg s.n)) /\ Gr w' w2) := fun w' g => formatInt_any s.n w' (by omega) (by omega) (he.gr g)
  have H2 : Hid (∀ w', Calls Tryz.prog 23 #[.int .i64 s.y] w' fun e w2 => e = .returned (.string (dg s.y)) /\ Gr w' w2) := fun w' => lItoa_any s.y w' (by omega) (by omega)
  rw [hk] at HA HW
  rw [if_neg (by decide)] at HW
  clear hk hs hb he hob ab n1 n2 y1 y2
  generalize stW s = WS at *
  generalize dg s.n = DN at *
  generalize dg s.y = DY at *
  generalize wk s.k = KW at *
  go_enter Tryz.func90, Tryz.ntmps90
  go_wp2_with fail
  refine (HA.out _).mono ?_
  rintro e w1 ⟨rfl, hg⟩
  have HX1 := Lib.hid (HX0.out.gr hg)
  have HG1 : Hid (Gr w w1) := (Gr.refl _).alloc.trans hg
  obtain ⟨x0, x1, x2, x3, x4, x5, x6⟩ := HX1.out.cells
  have xl := HX1.out.lt
  clear hg
  go_upto_region 3 with fail
  refine wp_region_held_drew (S := (fun w' => Gr w1 w' /\ w'.cell? ⟨w.heap.size, 0, none⟩ = some (.int .i64 s.k) /\ w'.cell? ⟨w.heap.size, 1, none⟩ = some (.string s.a) /\ w'.cell? ⟨w.heap.size, 2, none⟩ = some (.int .i64 s.n) /\ w'.cell? ⟨w.heap.size, 3, none⟩ = some (.int .i64 s.o) /\ w'.cell? ⟨w.heap.size, 4, none⟩ = some (.string s.u) /\ w'.cell? ⟨w.heap.size, 5, none⟩ = some (.int .i64 s.y) /\ w'.cell? ⟨w.heap.size, 6, none⟩ = some (.int .i64 s.v))) (by kernel_rfl) (by exact holdW HX1.out (by (with_reducible repeat' (first | exact Gr.refl _ | refine Gr.set ?_ _ ?_ _ | refine Gr.alloc ?_ | refine Gr.drew ?_ | refine Gr.trans ?_ (by assumption))) <;> (first | (simp; done) | (simp; omega) | omega))) (fun hHeld => ?_)
  refine ty 0 14 hHeld ?_
  refine ty 1 15 hHeld ?_
  refine ty 2 16 hHeld ?_
  refine ty 4 18 hHeld ?_
  refine ty 5 19 hHeld ?_
  refine ty 6 20 hHeld ?_
  refine ty 7 21 hHeld ?_
  refine ty 8 22 hHeld ?_
  refine ty 9 23 hHeld ?_
  refine ty 11 25 hHeld ?_
  refine ty 12 26 hHeld ?_
  refine wpAnyH_ready (rs := [3]) (by kernel_rfl) (by simp) (AllReadyH.cons rfl (fun K hK => ?_) AllReadyH.nil)
  go_simp
  refine (H0.out _).mono ?_; rintro e w2 ⟨rfl, hg2⟩
  (try go_wp2_with fail)
  refine hK.out _ _ (by exact holdW HX1.out (by (with_reducible repeat' (first | exact Gr.refl _ | refine Gr.set ?_ _ ?_ _ | refine Gr.alloc ?_ | refine Gr.drew ?_ | refine Gr.trans ?_ (by assumption))) <;> (first | (simp; done) | (simp; omega) | omega))) (fun hHeldN => ?_)
  clear hHeld hK K
  have hHeld := hHeldN
  clear hHeldN
  refine wpAnyH_ready (rs := [10]) (by kernel_rfl) (by simp) (AllReadyH.cons rfl (fun K hK => ?_) AllReadyH.nil)
  go_simp
  refine (H1.out _ (HG1.out.trans (by (with_reducible repeat' (first | exact Gr.refl _ | refine Gr.set ?_ _ ?_ _ | refine Gr.alloc ?_ | refine Gr.drew ?_ | refine Gr.trans ?_ (by assumption))) <;> (first | (simp; done) | (simp; omega) | omega)))).mono ?_; rintro e w3 ⟨rfl, hg3⟩
  (try go_wp2_with fail)
  refine hK.out _ _ (by exact holdW HX1.out (by (with_reducible repeat' (first | exact Gr.refl _ | refine Gr.set ?_ _ ?_ _ | refine Gr.alloc ?_ | refine Gr.drew ?_ | refine Gr.trans ?_ (by assumption))) <;> (first | (simp; done) | (simp; omega) | omega))) (fun hHeldN => ?_)
  clear hHeld hK K
  have hHeld := hHeldN
  clear hHeldN
  refine wpAnyH_ready (rs := [13]) (by kernel_rfl) (by simp) (AllReadyH.cons rfl (fun K hK => ?_) AllReadyH.nil)
  go_simp
  refine (H2.out _).mono ?_; rintro e w4 ⟨rfl, hg4⟩
  (try go_wp2_with fail)
  refine hK.out _ _ (by exact holdW HX1.out (by (with_reducible repeat' (first | exact Gr.refl _ | refine Gr.set ?_ _ ?_ _ | refine Gr.alloc ?_ | refine Gr.drew ?_ | refine Gr.trans ?_ (by assumption))) <;> (first | (simp; done) | (simp; omega) | omega))) (fun hHeldN => ?_)
  clear hHeld hK K
  have hHeld := hHeldN
  clear hHeldN
  refine wpAnyH_ready (rs := [14]) (by kernel_rfl) (by simp) (AllReadyH.cons rfl (fun K hK => ?_) AllReadyH.nil)
  go_simp
  refine hK.out _ _ (by exact holdW HX1.out (by (with_reducible repeat' (first | exact Gr.refl _ | refine Gr.set ?_ _ ?_ _ | refine Gr.alloc ?_ | refine Gr.drew ?_ | refine Gr.trans ?_ (by assumption))) <;> (first | (simp; done) | (simp; omega) | omega))) (fun hHeldN => ?_)
  clear hHeld hK K
  have hHeld := hHeldN
  clear hHeldN
  refine ty 15 2 hHeld ?_
  refine wpAnyH_done (by kernel_rfl) ?_ _
  go_wp2
  go_ret
  refine ⟨w4.heap.size, rfl, by simp, ?_, HG1.out.trans (by (with_reducible repeat' (first | exact Gr.refl _ | refine Gr.set ?_ _ ?_ _ | refine Gr.alloc ?_ | refine Gr.drew ?_ | refine Gr.trans ?_ (by assumption))) <;> (first | (simp; done) | (simp; omega) | omega))⟩
  rw [HW.out]
  exact strs_new w4 _ _ _ _ _ _
end Go.Proofs.YthaadiclopoamaaGreatDoor
/- def: Show. -/
set_option maxRecDepth 100000
set_option maxHeartbeats 8000000
namespace Go.Proofs.YthaadiclopoamaaGreatDoor
open Go.RowKit
open Df (Stp ownB askB stpB defB chE wk)

def jn (s : Stp) : List UInt8 := Lib.join ((stW s).map (·.data.toList)) [32]
theorem join5 (a b c d e : List UInt8) : Lib.join [a, b, c, d, e] [32] = a ++ 32 :: (b ++ 32 :: (c ++ 32 :: (d ++ 32 :: e))) := by
 simp [Lib.join, List.intercalate]
theorem stW_len (s : Stp) : (stW s).length = 5 := by unfold stW; split <;> rfl
theorem jn_stT (s : Stp) : stT s = [32, 32] ++ jn s ++ [59, 10] := by
 unfold stT jn
 have h := stW_len s
 generalize stW s = xs at *
 match xs, h with
 | [a, b, c, d, e], _ => simp [ln, join5]
def shE (nm : ByteArray) (L : List Stp) : ByteArray := if defB nm L = true then ⟨(shT nm L).toArray⟩ else ⟨#[]⟩
theorem jn_len {s : Stp} (h : stpB s = true) : (jn s).length <= 60 := by
 have h1 := stT_len h
 rw [jn_stT] at h1
 simp only [List.length_append, List.length_cons, List.length_nil] at h1
 omega
theorem join_any (s : Stp) (g : Nat) (w : World) (h : stpB s = true) (hg : g < w.heap.size) (hc : StrsIn w g (stW s)) : Calls Tryz.prog 89 #[.slice (some ⟨g, 0, none⟩) 5 5, .string ⟨#[32]⟩] w fun e w' => e = .returned (.string ⟨(jn s).toArray⟩) /\ Gr w w' := by
 have hl := jn_len h
 have := Tryz.strings_Join g 0 5 (stW s) ⟨#[32]⟩ w hc hg (by rw [stW_len]; omega) (by rw [stW_len]; omega) (by show (jn s).length <= _; omega)
 rw [stW_len] at this
 refine this.mono ?_
 rintro e w' ⟨rfl, hb⟩
 exact ⟨rfl, ⟨hb⟩⟩
theorem stT_take (L : List Stp) (k : Nat) (h : k < L.length) : (L.take (k + 1)).flatMap stT = (L.take k).flatMap stT ++ stT L[k] := by
 rw [List.take_succ_eq_append_getElem h, List.flatMap_append]; simp

theorem dShow_any (nm : ByteArray) (L : List Stp) (ad : Option Addr) (cap : Nat) (w : World) (hL : StpsAt w ad L) (hs : nm.size <= 9223372036854775807) (hn : L.length <= 9223372036854775807) (hz : ∀ s ∈ L, inS s) (he : Env w) :
  Calls Tryz.prog 65 #[.agg #[.string nm, .slice ad L.length cap]] w fun e w' => e = .returned (.tuple #[.string (shE nm L), .int .i64 (chE nm L)]) /\ Gr w w' := by
 have HC : Hid (∀ w', Gr w w' -> Calls Tryz.prog 62 #[.agg #[.string nm, .slice ad L.length cap]] w' fun e w2 => e = .returned (.int .i64 (chE nm L)) /\ Gr w' w2) := fun w' g => dCheck_any nm L ad cap w' (hL.gr g) hs hn hz
 have HX0 := Lib.hid (TwoAt.new w (.string nm) (.slice ad L.length cap) 27 _ rfl)
 cases hd : defB nm L with
 | false =>
  have e1 : shE nm L = ⟨#[]⟩ := by unfold shE; rw [hd]; rfl
  have e2 : chE nm L = 90 := Df.ch_no hd
  rw [e1, e2]
  rw [e2] at HC
  clear e1 e2 hd hL hz he
  go_enter Tryz.func65, Tryz.ntmps65
  go_wp2_with fail
  refine (HC.out _ (by repeat(first|exact Gr.r _|refine Gr.a ?_|refine Gr.d ?_|refine Gr.t ?_ (by assumption)))).mono ?_
  rintro e w1 ⟨rfl, hg⟩
  go_wp2
  go_ret2
  exact ⟨rfl, (Gr.refl _).alloc.trans hg⟩
 | true =>
  have e1 : shE nm L = ⟨(shT nm L).toArray⟩ := by unfold shE; rw [hd]; rfl
  have e2 : chE nm L = 0 := Df.ch_yes hd
  rw [e1, e2]
  rw [e2] at HC
  have hsl := shT_len hd
  obtain ⟨h1, h2, h8, h4⟩ := (Df.def_iff nm L).1 hd
  have hn16 := name_le h1
  obtain ⟨nl, hnl⟩ : ∃ l : List UInt8, l = nm.data.toList := ⟨_, rfl⟩
  have hnm : nm = ⟨nl.toArray⟩ := by rw [hnl, Lex.bytes_list]
  have hnll : nl.length <= 16 := by rw [hnl]; simpa using hn16
  have HT : Hid (shT nm L = [115, 97, 103, 97, 32] ++ nl ++ [32, 123, 10] ++ L.flatMap stT ++ [125, 10]) := by show _ = _; unfold shT shH; rw [hnl]; simp
  have HW : Hid (∀ (j : Nat) (h : j < L.length) (w' : World), Gr w w' -> Calls Tryz.prog 90 #[.agg #[.int .i64 L[j].k, .string L[j].a, .int .i64 L[j].n, .int .i64 L[j].o, .string L[j].u, .int .i64 L[j].y, .int .i64 L[j].v]] w' fun e w2 => WdR w' (stW L[j]) e w2) := fun j h w' g => words_any L[j] w' (hz _ (List.getElem_mem h)) (h4 _ (List.getElem_mem h)) (he.gr g)
  have HJ : Hid (∀ (j : Nat) (h : j < L.length) (g : Nat) (w' : World), g < w'.heap.size -> StrsIn w' g (stW L[j]) -> Calls Tryz.prog 89 #[.slice (some ⟨g, 0, none⟩) 5 5, .string ⟨#[32]⟩] w' fun e w2 => e = .returned (.string ⟨(jn L[j]).toArray⟩) /\ Gr w' w2) := fun j h g w' hg hc => join_any L[j] g w' (h4 _ (List.getElem_mem h)) hg hc
  have HB : Hid (∀ k, k <= L.length -> ((L.take k).flatMap stT).length <= 480) := by
   intro k hk
   have := stTs_len (L.take k) (fun s hs => h4 s (List.mem_of_mem_take hs))
   rw [List.length_take] at this
   omega
  have HL : Hid (StpsAt w ad L) := hL
  have HP : Hid (∀ s ∈ L, stpB s = true) := h4
  generalize shT nm L = RT at *
  subst hnm
  have a1 := add_lists [115, 97, 103, 97, 32] nl (by simp; omega)
  have a2 := add_lists ([115, 97, 103, 97, 32] ++ nl) [32, 123, 10] (by simp; omega)
  have hH : ([115, 97, 103, 97, 32] ++ nl ++ [32, 123, 10]).length <= 24 := by simp; omega
  generalize hHd : [115, 97, 103, 97, 32] ++ nl ++ [32, 123, 10] = HD at *
  generalize [115, 97, 103, 97, 32] ++ nl = t1 at *
  clear hHd hd hL hz he e1 e2 hsl h1 h4 hn16 hnl
  go_enter Tryz.func65, Tryz.ntmps65
  go_wp2_with fail
  refine (HC.out _ (by repeat(first|exact Gr.r _|refine Gr.a ?_|refine Gr.d ?_|refine Gr.t ?_ (by assumption)))).mono ?_
  rintro e w1 ⟨rfl, hg⟩
  have HG1 : Hid (Gr w w1) := (Gr.refl _).alloc.trans hg
  obtain ⟨x0, x1, _, _, xl⟩ := HX0.out.gr hg
  clear hg
  go_wp2
  go_loopw [5, 20] (fun sv iv wr => ∃ k : Nat, k <= L.length /\ iv = .int .i64 (k : Int) /\ sv = .string ⟨(HD ++ (L.take k).flatMap stT).toArray⟩ /\ Gr w wr) (fun _ iv _ => L.length - (intOf iv).toNat)
  case atStart => exact ⟨0, by omega, rfl, by simp, HG1.out⟩
  case round =>
   obtain ⟨k, hk, rfl, rfl, hg⟩ := hrel
   have HG : Hid (Gr w wr) := hg
   clear hg x0 x1 xl
   have hbk := HB.out k hk
   by_cases hlt : k < L.length
   ·obtain ⟨b, off, rfl, hb, x0, x1, x2, x3, x4, x5, x6⟩ := StpsAt.at (HL.out.gr HG.out) k hlt
    have HB0 := Lib.hid (AccAt.new wr (.int .i64 L[k].k) (.string L[k].a) (.int .i64 L[k].n) (.int .i64 L[k].o) (.string L[k].u) (.int .i64 L[k].y) (.int .i64 L[k].v) 94 _ rfl)
    have HWk : Hid (∀ w', Gr w w' -> Calls Tryz.prog 90 #[.agg #[.int .i64 L[k].k, .string L[k].a, .int .i64 L[k].n, .int .i64 L[k].o, .string L[k].u, .int .i64 L[k].y, .int .i64 L[k].v]] w' fun e w2 => WdR w' (stW L[k]) e w2) := HW.out k hlt
    have HJk := Lib.hid (HJ.out k hlt)
    have hjl := jn_len (HP.out _ (List.getElem_mem hlt))
    have HFT : Hid ((L.take (k + 1)).flatMap stT = (L.take k).flatMap stT ++ ([32, 32] ++ jn L[k] ++ [59, 10])) := by show _ = _; rw [stT_take L k hlt, jn_stT]
    have a3 := add_lists [32, 32] (jn L[k]) (by simp; omega)
    have a4 := add_lists ([32, 32] ++ jn L[k]) [59, 10] (by simp; omega)
    have a5 := add_lists (HD ++ (L.take k).flatMap stT) ([32, 32] ++ jn L[k] ++ [59, 10]) (by simp only [List.length_append, List.length_cons, List.length_nil] at hH ⊢; omega)
    have HFT2 : Hid (HD ++ (L.take k).flatMap stT ++ ([32, 32] ++ jn L[k] ++ [59, 10]) = HD ++ (L.take (k + 1)).flatMap stT) := by show _ = _; rw [HFT.out, List.append_assoc]
    generalize HD ++ (L.take k).flatMap stT ++ ([32, 32] ++ jn L[k] ++ [59, 10]) = t5 at *
    generalize [32, 32] ++ jn L[k] ++ [59, 10] = t4 at *
    generalize [32, 32] ++ jn L[k] = t3 at *
    generalize HD ++ (L.take k).flatMap stT = t0 at *
    generalize jn L[k] = jk at *
    generalize stW L[k] = sk at *
    generalize L[k].k = y0 at *
    generalize L[k].a = y1 at *
    generalize L[k].n = y2 at *
    generalize L[k].o = y3 at *
    generalize L[k].u = y4 at *
    generalize L[k].y = y5 at *
    generalize L[k].v = y6 at *
    clear a1 a2 hbk hjl
    go_wp2_with fail
    refine (HWk.out _ HG.out.alloc).mono ?_
    rintro e w2 ⟨g, rfl, hgl, hst, hg2⟩
    have HG2 : Hid (Gr w w2) := HG.out.alloc.trans hg2
    have HS2 := Lib.hid hst
    clear hg2 hst x0 x1 x2 x3 x4 x5 x6
    go_wp2_with fail
    refine (HJk.out g _ hgl HS2.out).mono ?_
    rintro e w3 ⟨rfl, hg3⟩
    have HG3 : Hid (Gr w w3) := HG2.out.trans hg3
    clear hg3
    go_wp2
    go_roundw
    case rel => exact ⟨k + 1, by omega, by go_num, by rw [<- HFT2.out], HG3.out⟩
    case measure => simp [intOf]; omega
   ·obtain rfl : k = L.length := by omega
    rw [List.take_length]
    rw [List.take_length] at hbk
    have a6 := add_lists (HD ++ L.flatMap stT) [125, 10] (by simp only [List.length_append, List.length_cons, List.length_nil] at hH ⊢; omega)
    have HTT : Hid (RT = HD ++ L.flatMap stT ++ [125, 10]) := HT.out
    generalize HD ++ L.flatMap stT ++ [125, 10] = t7 at *
    generalize HD ++ L.flatMap stT = t6 at *
    go_wp2
    go_ret2
    exact ⟨by rw [HTT.out]; rfl, HG.out⟩
end Go.Proofs.YthaadiclopoamaaGreatDoor
/- What is read of the text of an id is the id. -/
set_option maxRecDepth 100000
set_option maxHeartbeats 8000000
namespace Go.Proofs.YthaadiclopoamaaGreatDoor

theorem dig_mem (n : Nat) : ∀ b ∈ Lib.decDigits n, 48 <= b.toNat /\ b.toNat <= 57 := by
 induction n using Nat.strongRecOn with
 | _ n ih =>
  intro b hb
  rw [Lib.decDigits] at hb
  split at hb
  ·next h =>
   rw [List.mem_singleton] at hb
   subst hb
   rw [UInt8.toNat_ofNat']; omega
  ·next h =>
   rcases List.mem_append.1 hb with hb | hb
   ·exact ih (n / 10) (by omega) b hb
   ·rw [List.mem_singleton] at hb
    subst hb
    rw [UInt8.toNat_ofNat']; omega
theorem dig_ne (n : Nat) : Lib.decDigits n ≠ [] := by
 rw [Lib.decDigits]
 split <;> simp
theorem dig_not (n : Nat) (c : UInt8) (h : c.toNat < 48 ∨ 57 < c.toNat) : c ∉ Lib.decDigits n := fun hm => by
 have := dig_mem n c hm
 omega
theorem parse_snoc (l : List UInt8) (k : Nat) (hk : k < 10) : ∀ acc u, Lib.parseUint10 acc l = .ok u -> u * 10 + k < 1000000000000000000 -> Lib.parseUint10 acc (l ++ [UInt8.ofNat (48 + k)]) = .ok (u * 10 + k) := by
 have ht : (UInt8.ofNat (48 + k)).toNat = 48 + k := by rw [UInt8.toNat_ofNat']; omega
 induction l with
 | nil =>
  intro acc u h hu
  simp only [Lib.parseUint10] at h
  injection h with h
  subst h
  rw [List.nil_append, Lib.parseUint10, ht, if_pos (by omega), if_neg (by omega), if_neg (by omega), show 48 + k - 48 = k by omega]
  rfl
 | cons c t ih =>
  intro acc u h hu
  rw [List.cons_append, Lib.parseUint10]
  rw [Lib.parseUint10] at h
  split at h
  ·next h1 =>
   rw [if_pos h1]
   split at h
   ·cases h
   ·next h2 =>
    rw [if_neg h2]
    split at h
    ·cases h
    ·next h3 =>
     rw [if_neg h3]
     exact ih _ _ h hu
  ·cases h
theorem parse_digs (n : Nat) : n < 1000000000000000000 -> Lib.parseUint10 0 (Lib.decDigits n) = .ok n := by
 induction n using Nat.strongRecOn with
 | _ n ih =>
  intro hn
  rw [Lib.decDigits]
  split
  ·next h =>
   have := parse_snoc [] n h 0 0 rfl (by omega)
   simpa using this
  ·next h =>
   have := parse_snoc (Lib.decDigits (n / 10)) (n % 10) (by omega) 0 (n / 10) (ih (n / 10) (by omega) (by omega)) (by omega)
   rw [this]
   congr 1
   omega
theorem num_digs (n : Nat) (hn : n < 1000000000000000000) : numE (Lib.decDigits n) = n := by
 have h1 := parse_digs n hn
 have h2 := dig_mem n
 have h3 := dig_ne n
 cases hl : Lib.decDigits n with
 | nil => exact absurd hl h3
 | cons c r =>
  rw [hl] at h1 h2
  have hc := h2 c List.mem_cons_self
  have e1 : ¬ (c.toNat = 43 ∨ c.toNat = 45) := by omega
  have e2 : ¬ c.toNat = 45 := by omega
  have e3 : Lib.parseMag (c :: r) = .ok n := by unfold Lib.parseMag; rw [if_neg (by simp), h1]
  have key : Lib.atoiAll (c :: r) = .ok (n : Int) := by
   have e4 : (if c.toNat = 43 ∨ c.toNat = 45 then r else c :: r) = c :: r := if_neg e1
   simp only [Lib.atoiAll, e4, e3]
   rw [if_neg (by omega), if_neg (by omega), if_neg e2]
  unfold numE
  rw [key]

theorem cut_at (l m : List UInt8) (c : UInt8) (h : c ∉ l) : Idn.cut3 (l ++ c :: m) c = (l, m, true) := by
 induction l with
 | nil => simp [Idn.cut3]
 | cons b t ih =>
  rw [List.mem_cons, not_or] at h
  rw [List.cons_append, Idn.cut3, if_neg (fun e => h.1 e.symm), ih h.2]
theorem cut_none (l : List UInt8) (c : UInt8) (h : c ∉ l) : Idn.cut3 l c = (l, [], false) := by
 induction l with
 | nil => rfl
 | cons b t ih =>
  rw [List.mem_cons, not_or] at h
  rw [Idn.cut3, if_neg (fun e => h.1 e.symm), ih h.2]
theorem pair_digs (a b : Nat) (c : UInt8) (hc : c.toNat < 48 ∨ 57 < c.toNat) (ha : a < 1000000000000000000) (hb : b < 1000000000000000000) : pairE (Lib.decDigits a ++ c :: Lib.decDigits b) c = ((a : Int), (b : Int)) := by
 unfold pairE
 rw [cut_at _ _ _ (dig_not a c hc), num_digs a ha, num_digs b hb]

def bodyT (h : Int × Int) : List UInt8 := Lib.decDigits h.1.toNat ++ 64 :: Lib.decDigits h.2.toNat
def restT : List (Int × Int) -> List UInt8
 | [] => []
 | h :: t => bodyT h ++ t.flatMap Idn.hopT
theorem cut_rest (p : List UInt8) (L : List (Int × Int)) (hp : 47 ∉ p) : Idn.cut3 (p ++ L.flatMap Idn.hopT) 47 = (p, restT L, !L.isEmpty) := by
 cases L with
 | nil => simpa [restT] using cut_none p 47 hp
 | cons h t =>
  have : (h :: t).flatMap Idn.hopT = 47 :: restT (h :: t) := by simp [Idn.hopT, restT, bodyT]
  rw [this, cut_at p _ 47 hp]; rfl
theorem body_not (h : Int × Int) : (47 : UInt8) ∉ bodyT h := by
 unfold bodyT
 rw [List.mem_append, List.mem_cons, not_or, not_or]
 exact ⟨dig_not _ _ (by decide), by decide, dig_not _ _ (by decide)⟩
theorem readH_rest (L : List (Int × Int)) (hL : ∀ x ∈ L, 0 <= x.1 /\ x.1 < 8 /\ 0 <= x.2 /\ x.2 < 16) : ∀ k, L.length <= k -> readH k (restT L) (!L.isEmpty) = L := by
 induction L with
 | nil => intro k _; cases k <;> rfl
 | cons h t ih =>
  intro k hk
  cases k with
  | zero => simp at hk
  | succ k =>
   have hh := hL h List.mem_cons_self
   have hp : pairE (bodyT h) 64 = h := by
    unfold bodyT
    rw [pair_digs _ _ _ (by decide) (by omega) (by omega)]
    exact Prod.ext (by simp; omega) (by simp; omega)
   show pairE (Idn.cut3 (bodyT h ++ t.flatMap Idn.hopT) 47).1 64 :: readH k (Idn.cut3 (bodyT h ++ t.flatMap Idn.hopT) 47).2.1 (Idn.cut3 (bodyT h ++ t.flatMap Idn.hopT) 47).2.2 = h :: t
   rw [cut_rest _ _ (body_not h), hp, ih (fun x hx => hL x (List.mem_cons_of_mem _ hx)) k (by simpa using hk)]
theorem read_show (r n : Int) (L : List (Int × Int)) (hm : Idn.mayB r n L = true) : readR (Idn.showT r n L) = (r, n) /\ readL (Idn.showT r n L) = L := by
 obtain ⟨h1, h2, h3, h4, h5, h6⟩ := may_root hm
 have hp : (47 : UInt8) ∉ Lib.decDigits r.toNat ++ 46 :: Lib.decDigits n.toNat := by
  rw [List.mem_append, List.mem_cons, not_or, not_or]
  exact ⟨dig_not _ _ (by decide), by decide, dig_not _ _ (by decide)⟩
 unfold readR readL Idn.showT
 rw [cut_rest _ _ hp]
 refine ⟨?_, readH_rest L h6 4 h5⟩
 rw [pair_digs _ _ _ (by decide) (by omega) (by omega)]
 exact Prod.ext (by simp; omega) (by simp; omega)
theorem par_show (r n : Int) (L : List (Int × Int)) (hm : Idn.mayB r n L = true) : parB (Idn.showT r n L) = true := by
 obtain ⟨h1, h2⟩ := read_show r n L hm
 unfold parB
 rw [h1, h2]
 simp [hm]
end Go.Proofs.YthaadiclopoamaaGreatDoor
/- pack.Number lays its number's groups: Pk.num. -/
set_option maxRecDepth 100000
set_option maxHeartbeats 8000000
namespace Go.Proofs.YthaadiclopoamaaGreatDoor
open Go.RowKit

theorem number_any (n : Nat) (w : World) (hn : n < 18446744073709551616) :
  Calls Tryz.prog 64 #[.int .u64 n] w fun e w' => e = .returned (.string ⟨(Pk.num n).toArray⟩) /\ Gr w w' := by
 obtain ⟨i0, hi, hz0, hz1, hz2⟩ := info_parts info5
 have hpow : n < 128 ^ (9 + 1) := by omega
 have hmk : ∀ w : World, (Instr.makeSlice 124 (.int .i64 0) (.int .i64 10)).run Tryz.prog w = .ok (.slice (some ⟨w.heap.size, 0, none⟩) 0 10) (w.alloc (.cells (Array.replicate 10 (.int .u8 0)) 5)) := fun _ => by kernel_rfl
 go_enter Tryz.func64, Tryz.ntmps64
 go_wp2
 go_loopw [0, 3] (fun m v wr => ∃ (f x : Nat) (l : List UInt8), m = .int .u64 x /\ x <= n /\ x < 128 ^ (f + 1) /\ f + l.length = 9 /\ Pk.num n = l ++ Pk.numF f x /\ wr.ownsRow w.heap.size 5 1 v l.length (Lib.byteCells l) /\ Below w.heap.size w wr)
  (fun m _ _ => (intOf m).toNat)
 case atStart => exact ⟨9, n, [], rfl, Nat.le_refl _, hpow, rfl, rfl, World.ownsRow_made w _ 10 (Nat.le_refl _) (by decide) (by simp), (Below.refl _ _).alloc (Nat.le_refl _) _⟩
 case round =>
  obtain ⟨f, x, l, rfl, hxn, hx, hf, hnum, hown, hb⟩ := hrel
  have HN : Hid (Pk.num n = l ++ Pk.numF f x) := hnum
  have HX : Hid (x < 128 ^ (f + 1)) := hx
  have HF : Hid (f + l.length = 9) := hf
  clear hnum hmk hx hf hpow
  have hbs := hb.size
  have hl9 : l.length <= 9 := by have := HF.out; omega
  have hm1 : l.length + 1 <= maxLen := by unfold maxLen; omega
  by_cases hlt : x < 128
  ·have hcv := fun v' (w1 : World) (h : w1.ownsRow w.heap.size 5 1 v' (l.length + 1) (Lib.byteCells l ++ [.int .u8 (x : Int)])) => own_string (l := l ++ [UInt8.ofNat x]) (w := w1) (v := v') (n := l.length + 1) (base := w.heap.size) (by rw [byteCells_snoc]; simpa [Nat.mod_eq_of_lt (show x < 256 by omega)] using h) (by simp)
   go_wp2_with (first
    | (at_builtin; refine wpList_append_own _ rfl _ _ 124 rfl w.heap.size 5 i0 (.int .u8 0) 1 1 Tryz.underlying124 hi hz0 hz1 hz2 rfl (by decide) _ _ _ rfl (hown.alloc _) ⟨wr.heap.size, 0, none⟩ 1 1 [.int .u8 x] rfl rfl (cell_one_new _ _ _) (by intro u hu; simp at hu; subst hu; rfl) hm1 (by omega) (by simp; omega) ?_)
    | fail)
   intro v' w1 hown' hgrow _
   have hc1 := hcv v' w1 hown'
   clear hcv
   go_wp2
   go_ret
   have hN := HN.out
   rw [Pk.numF_lt f x hlt] at hN
   refine ⟨by rw [hN]; rfl, ?_⟩
   refine Gr.of ?_
   exact (hb.alloc hbs _).grown hgrow (by simp; omega) (fun k hk => (hown.lt k hk).1)
  ·have hf1 : ∃ g, f = g + 1 := by
    cases f with
    | zero => have := HX.out; simp at this; omega
    | succ g => exact ⟨g, rfl⟩
   obtain ⟨g, rfl⟩ := hf1
   go_wp2_with (first
    | (at_builtin; refine wpList_append_own _ rfl _ _ 124 rfl w.heap.size 5 i0 (.int .u8 0) 1 1 Tryz.underlying124 hi hz0 hz1 hz2 rfl (by decide) _ _ _ rfl (hown.alloc _) ⟨wr.heap.size, 0, none⟩ 1 1 [.int .u8 ((x : Int) % 128 + 128)] rfl rfl (cell_one_new _ _ _) (by intro u hu; simp at hu; subst hu; rfl) hm1 (by omega) (by simp; omega) ?_)
    | fail)
   intro v' w1 hown' hgrow _
   go_wp2
   go_roundw
   case rel =>
    refine ⟨g, x / 128, l ++ [UInt8.ofNat (x % 128 + 128)], ?_, ?_, ?_, ?_, ?_, ?_, (hb.alloc hbs _).grown hgrow (by simp; omega) (fun k hk => (hown.lt k hk).1)⟩
    ·go_num
    ·omega
    ·have := HX.out; rw [Nat.pow_succ] at this; omega
    ·have := HF.out; simp; omega
    ·rw [HN.out, Pk.numF_ge g x hlt]; simp
    ·rw [byteCells_snoc]; simp only [List.length_append, List.length_singleton]
     have e : (UInt8.ofNat (x % 128 + 128)).toNat = x % 128 + 128 := by simp; omega
     rw [e]; exact hown'
   case measure => simp [intOf]; omega
end Go.Proofs.YthaadiclopoamaaGreatDoor
