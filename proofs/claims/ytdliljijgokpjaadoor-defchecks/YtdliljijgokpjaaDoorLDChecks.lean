/- For every input the law DefChecks answers true: any definition may be, or not, and is the same as another one, or not, and is written, or refused, as the document says. -/
import Derived.Test.YtdliljijgokpjaaDoorRegH
import Derived.Test.YtdliljijgokpjaaDoorRefDs
import Derived.Test.YtdliljijgokpjaaDoorDefW
import Derived.Test.YtdliljijgokpjaaDoorOpenD
import Derived.Test.YtdliljijgokpjaaDoorAwkD
import Derived.Test.YtdliljijgokpjaaDoorRefDq
import Derived.Test.YtdliljijgokpjaaDoorDefZ
import Derived.Deep.DeepCutAuto
import Derived.SevenTiedAt
namespace Go.Proofs.YtdliljijgokpjaaDoor
theorem wpAnyH_more {P : Program} {md : Region.Mode} {ops : Array Oper} {Q : Exit → Act → World → Prop} {S S2 : World → Prop} (h : ∀ w, S2 w → S w) : ∀ (fuel : Nat) (listed : Array Bool) (a : Act) (w : World), wpAnyH P md ops Q S2 fuel listed a w → wpAnyH P md ops Q S fuel listed a w
  | 0, _, _, _, k => k
  | fuel + 1, _, _, _, k => ⟨k.1, fun i hi => wpOp_mono (fun a' w' h' => ⟨h w' h'.1, wpAnyH_more h fuel _ a' w' h'.2⟩) (k.2 i hi)⟩
end Go.Proofs.YtdliljijgokpjaaDoor
namespace Go.Proofs.YtdliljijgokpjaaDoor
open Go.RowKit
open Df (Stp ownB askB stpB defB chE wk)

theorem dgs_one (n : Nat) (h : n < 10) : Lib.decDigits n = [UInt8.ofNat (48 + n)] := by rw [Lib.decDigits, dif_pos h]
theorem dgs_snoc (n : Nat) (h : ¬ n < 10) : Lib.decDigits n = Lib.decDigits (n / 10) ++ Lib.decDigits (n % 10) := by
  rw [Lib.decDigits, dif_neg h, dgs_one (n % 10) (by omega)]

set_option maxHeartbeats 1000000 in
theorem rDigit_any (n : Nat) (w : World) (h : n < 10) : Calls Tryd.prog 25 #[.int .i64 n] w fun e w' => e = .returned (.string ⟨(Lib.decDigits n).toArray⟩) ∧ w' = w := by
  have HD : Hid (Lib.decDigits n = [UInt8.ofNat (48 + n)]) := dgs_one n h
  rcases (by omega : n = 0 ∨ n = 1 ∨ n = 2 ∨ n = 3 ∨ n = 4 ∨ n = 5 ∨ n = 6 ∨ n = 7 ∨ n = 8 ∨ n = 9) with rfl | rfl | rfl | rfl | rfl | rfl | rfl | rfl | rfl | rfl
  all_goals
    go_enter Tryd.func25, Tryd.ntmps25
    go_wp2
    go_ret
    exact ⟨by rw [HD.out]; rfl, rfl⟩

set_option maxHeartbeats 1000000 in
theorem rDigits_any (n : Nat) (w : World) (h : n ≤ 1000000000000000000) : Calls Tryd.prog 25 #[.int .i64 n] w fun e w' => e = .returned (.string ⟨(Lib.decDigits n).toArray⟩) ∧ w' = w := by
  induction n using Nat.strongRecOn with
  | ind n ih =>
    by_cases h9 : n < 10
    · exact rDigit_any n w h9
    · have H1 : Hid (Calls Tryd.prog 25 #[.int .i64 ((n / 10 : Nat) : Int)] w fun e w' => e = .returned (.string ⟨(Lib.decDigits (n / 10)).toArray⟩) ∧ w' = w) := ih (n / 10) (by omega) (by omega)
      have H2 : Hid (Calls Tryd.prog 25 #[.int .i64 ((n % 10 : Nat) : Int)] w fun e w' => e = .returned (.string ⟨(Lib.decDigits (n % 10)).toArray⟩) ∧ w' = w) := rDigit_any (n % 10) w (by omega)
      have hl := digs_len (n / 10) 19 (by omega)
      have hl2 := digs_len (n % 10) 0 (by omega)
      have ha := add_lists (Lib.decDigits (n / 10)) (Lib.decDigits (n % 10)) (by omega)
      have HD : Hid (Lib.decDigits n = Lib.decDigits (n / 10) ++ Lib.decDigits (n % 10)) := dgs_snoc n h9
      have e1 : ((n / 10 : Nat) : Int) = (n : Int) / 10 := by omega
      have e2 : ((n % 10 : Nat) : Int) = (n : Int) % 10 := by omega
      rw [e1] at H1
      rw [e2] at H2
      have h9' : ¬ ((n : Int) < 10) := by omega
      generalize Lib.decDigits (n / 10) ++ Lib.decDigits (n % 10) = t2 at *
      generalize Lib.decDigits (n / 10) = t0 at *
      generalize Lib.decDigits (n % 10) = t1 at *
      clear ih hl hl2 e1 e2
      go_enter Tryd.func25, Tryd.ntmps25
      go_wp2_with fail
      refine H1.out.mono ?_
      rintro e w1 ⟨rfl, hw1⟩; obtain rfl := hw1.symm
      go_wp2_with fail
      refine H2.out.mono ?_
      rintro e w1 ⟨rfl, hw1⟩; obtain rfl := hw1.symm
      go_wp2
      go_ret
      exact ⟨by rw [HD.out]; rfl, rfl⟩
theorem refDg_any (n : Int) (w : World) (h0 : 0 ≤ n) (h1 : n ≤ 1000000000000000000) : Calls Tryd.prog 25 #[.int .i64 n] w fun e w' => e = .returned (.string (dg n)) ∧ w' = w := by
  have := rDigits_any n.toNat w (by omega)
  rw [show ((n.toNat : Nat) : Int) = n by omega] at this
  exact this
theorem amount_any (n : Int) (w : World) (h0 : 0 ≤ n) (h1 : n ≤ 1000000000000000000) : Calls Tryd.prog 24 #[.int .i64 n] w fun e w' => e = .returned (.string (dg n)) ∧ w' = w := by
  have H1 : Hid (Calls Tryd.prog 25 #[.int .i64 n] w fun e w' => e = .returned (.string (dg n)) ∧ w' = w) := refDg_any n w h0 h1
  generalize dg n = D at *
  clear h0 h1
  go_enter Tryd.func24, Tryd.ntmps24
  go_wp2_with fail
  refine H1.out.mono ?_
  rintro e w1 ⟨rfl, hw1⟩; obtain rfl := hw1.symm
  go_wp2
  go_ret
  exact ⟨rfl, rfl⟩
theorem refWords_any (w : World) : Calls Tryd.prog 23 #[] w fun e w' => e = .returned (.slice (some ⟨w.heap.size, 0, none⟩) 5 5) ∧ StrsIn w' w.heap.size [⟨#[]⟩, Df.wDebit, Df.wCredit, Df.wReserve, Df.wRelease] ∧ w.heap.size < w'.heap.size ∧ Gr w w' := by
  have HS := Lib.hid (fun t => strs_new w ⟨#[]⟩ Df.wDebit Df.wCredit Df.wReserve Df.wRelease t)
  go_enter Tryd.func23, Tryd.ntmps23
  go_wp2
  go_ret
  exact ⟨rfl, HS.out _, by simp, (by repeat (first | exact Gr.refl _ | refine Gr.alloc ?_ | refine Gr.drew ?_ | refine Gr.trans ?_ (by assumption)))⟩
theorem words_at {w : World} {g : Nat} (h : StrsIn w g [⟨#[]⟩, Df.wDebit, Df.wCredit, Df.wReserve, Df.wRelease]) (k : Nat) (h1 : 1 ≤ k) (h4 : k ≤ 4) : w.cell? ⟨g, k, none⟩ = some (.string (wk (k : Int))) := by
  rcases (by omega : k = 1 ∨ k = 2 ∨ k = 3 ∨ k = 4) with rfl | rfl | rfl | rfl
  · exact h 1 _ rfl
  · exact h 2 _ rfl
  · exact h 3 _ rfl
  · exact h 4 _ rfl
theorem holdW2 {a c b : World} {g : Nat} {v0 v1 v2 v3 v4 v5 v6 : Value} {p : Addr} {v : Value} (h : AccAt a g v0 v1 v2 v3 v4 v5 v6) (k : Gr a c) (hp : c.cell? p = some v) (k2 : Gr c b) : (Gr a b ∧ b.cell? ⟨g, 0, none⟩ = some v0 ∧ b.cell? ⟨g, 1, none⟩ = some v1 ∧ b.cell? ⟨g, 2, none⟩ = some v2 ∧ b.cell? ⟨g, 3, none⟩ = some v3 ∧ b.cell? ⟨g, 4, none⟩ = some v4 ∧ b.cell? ⟨g, 5, none⟩ = some v5 ∧ b.cell? ⟨g, 6, none⟩ = some v6) ∧ Gr c b ∧ b.cell? p = some v :=
  ⟨holdW h (k.trans k2), k2, k2.keep hp⟩
end Go.Proofs.YtdliljijgokpjaaDoor
namespace Go.Proofs.YtdliljijgokpjaaDoor
open Go.RowKit
open Df (Stp ownB askB stpB defB chE wk)

theorem stp_u {s : Stp} (h : stpB s = true) : (s.u = ⟨#[]⟩ → askB s = false) ∧ (s.u ≠ ⟨#[]⟩ → askB s = true) := by
  constructor
  · intro hu
    cases ha : askB s with
    | false => rfl
    | true =>
      have := ((Df.ask_iff s).1 ha).1
      rw [hu] at this
      exact absurd this (by decide)
  · intro hu
    cases ha : askB s with
    | true => rfl
    | false => exact absurd ((Df.own_iff s).1 (own_of h ha)).1 hu
theorem to_list (x : ByteArray) : ∃ l : List UInt8, x = ⟨l.toArray⟩ ∧ x.data.toList = l := ⟨x.data.toList, (Lex.bytes_list x).symm, rfl⟩

/- one step's line behind what was written -/
def LnR (w : World) (t : List UInt8) (v : Value) (w' : World) : Prop := v = .string ⟨t.toArray⟩ ∧ Gr w w'

set_option maxHeartbeats 8000000 in
set_option maxRecDepth 100000 in
theorem refDShow_any (nm : ByteArray) (L : List Stp) (ad : Option Addr) (cap : Nat) (w : World) (hL : StpsAt w ad L) (hs : nm.size ≤ 9223372036854775807) (hn : L.length ≤ 9223372036854775807) (hz : ∀ s ∈ L, inS s) :
    Calls Tryd.prog 11 #[.agg #[.string nm, .slice ad L.length cap]] w fun e w' => e = .returned (.tuple #[.string (shE nm L), .int .i64 (chE nm L)]) ∧ Gr w w' := by
  have HC : Hid (∀ w', Gr w w' → Calls Tryd.prog 13 #[.agg #[.string nm, .slice ad L.length cap]] w' fun e w2 => e = .returned (.int .i64 (chE nm L)) ∧ Gr w' w2) := fun w' g => refDCheck_any nm L ad cap w' (hL.gr g) hs hn hz
  have HX0 := Lib.hid (TwoAt.new w (.string nm) (.slice ad L.length cap) 24 _ rfl)
  cases hd : defB nm L with
  | false =>
    have e1 : shE nm L = ⟨#[]⟩ := by unfold shE; rw [hd]; rfl
    have e2 : chE nm L = 90 := Df.ch_no hd
    rw [e1, e2]
    rw [e2] at HC
    clear e1 e2 hd hL hz
    go_enter Tryd.func11, Tryd.ntmps11
    go_wp2_with fail
    refine (HC.out _ (by repeat (first | exact Gr.refl _ | refine Gr.alloc ?_ | refine Gr.drew ?_ | refine Gr.trans ?_ (by assumption)))).mono ?_
    rintro e w1 ⟨rfl, hg⟩
    go_wp2
    go_ret2
    exact ⟨rfl, (Gr.refl _).alloc.trans hg⟩
  | true =>
    have e1 : shE nm L = ⟨(shT nm L).toArray⟩ := by unfold shE; rw [hd]; rfl
    have e2 : chE nm L = 0 := Df.ch_yes hd
    rw [e1, e2]
    rw [e2] at HC
    obtain ⟨h1, h2, h8, h4⟩ := (Df.def_iff nm L).1 hd
    have hn16 := name_le h1
    obtain ⟨nl, hnm, hnl⟩ := to_list nm
    have hnll : nl.length ≤ 16 := by rw [← hnl]; simpa using hn16
    have HT : Hid (shT nm L = [115, 97, 103, 97, 32] ++ nl ++ [32, 123, 10] ++ L.flatMap stT ++ [125, 10]) := by show _ = _; unfold shT shH; rw [hnl]; simp
    have HB : Hid (∀ k, k ≤ L.length → ((L.take k).flatMap stT).length ≤ 480) := by
      intro k hk
      have := stTs_len (L.take k) (fun s hs => h4 s (List.mem_of_mem_take hs))
      rw [List.length_take] at this
      omega
    have HL : Hid (StpsAt w ad L) := hL
    have HP : Hid (∀ s ∈ L, stpB s = true) := h4
    have HWo : Hid (∀ w' : World, Calls Tryd.prog 23 #[] w' fun e w2 => e = .returned (.slice (some ⟨w'.heap.size, 0, none⟩) 5 5) ∧ StrsIn w2 w'.heap.size [⟨#[]⟩, Df.wDebit, Df.wCredit, Df.wReserve, Df.wRelease] ∧ w'.heap.size < w2.heap.size ∧ Gr w' w2) := refWords_any
    generalize shT nm L = RT at *
    subst hnm
    have a1 := add_lists [115, 97, 103, 97, 32] nl (by simp; omega)
    have a2 := add_lists ([115, 97, 103, 97, 32] ++ nl) [32, 123, 10] (by simp; omega)
    have hH : ([115, 97, 103, 97, 32] ++ nl ++ [32, 123, 10]).length ≤ 24 := by simp; omega
    generalize hHd : [115, 97, 103, 97, 32] ++ nl ++ [32, 123, 10] = HD at *
    generalize [115, 97, 103, 97, 32] ++ nl = t1 at *
    clear hHd hd hL hz e1 e2 h1 h4 hn16 hnl
    go_enter Tryd.func11, Tryd.ntmps11
    go_wp2_with fail
    refine (HC.out _ (by repeat (first | exact Gr.refl _ | refine Gr.alloc ?_ | refine Gr.drew ?_ | refine Gr.trans ?_ (by assumption)))).mono ?_
    rintro e w1 ⟨rfl, hg⟩
    have HG1 : Hid (Gr w w1) := (Gr.refl _).alloc.trans hg
    have HX1 := Lib.hid (HX0.out.gr hg)
    obtain ⟨x0, x1, _, _, xl⟩ := HX1.out
    clear hg
    go_wp2
    go_loopw [4, 5] (fun sv iv wr => ∃ k : Nat, k ≤ L.length ∧ iv = .int .i64 (k : Int) ∧ sv = .string ⟨(HD ++ (L.take k).flatMap stT).toArray⟩ ∧ TwoAt wr w.heap.size (.string ⟨nl.toArray⟩) (.slice ad L.length cap) ∧ Gr w wr) (fun _ iv _ => L.length - (intOf iv).toNat)
    case atStart => exact ⟨0, by omega, rfl, by simp, HX1.out, HG1.out⟩
    case round =>
      obtain ⟨k, hk, rfl, rfl, hx, hg⟩ := hrel
      have HG : Hid (Gr w wr) := hg
      have HXw := Lib.hid hx
      clear hg x0 x1 xl
      obtain ⟨x0, x1, _, _, xl⟩ := hx
      have hbk := HB.out k hk
      by_cases hlt : k < L.length
      · obtain ⟨b, off, rfl, hb, c0, c1, c2, c3, c4, c5, c6⟩ := StpsAt.at (HL.out.gr HG.out) k hlt
        have hst := HP.out _ (List.getElem_mem hlt)
        have hFT : (L.take (k + 1)).flatMap stT = (L.take k).flatMap stT ++ stT L[k] := flat_take L k hlt
        have ho : (HD ++ (L.take k).flatMap stT).length ≤ 504 := by rw [List.length_append]; omega
        have HFT : Hid (HD ++ (L.take (k + 1)).flatMap stT = HD ++ (L.take k).flatMap stT ++ stT L[k]) := by show _ = _; rw [hFT, List.append_assoc]
        generalize hTn : HD ++ (L.take (k + 1)).flatMap stT = tn at *
        have HTn := Lib.hid hTn
        clear hTn
        generalize HD ++ (L.take k).flatMap stT = t0 at *
        obtain ⟨q1, q2⟩ := stp_u hst
        generalize L[k] = s at *
        have HB0 := Lib.hid (AccAt.new wr (.int .i64 s.k) (.string s.a) (.int .i64 s.n) (.int .i64 s.o) (.string s.u) (.int .i64 s.y) (.int .i64 s.v) 47 _ rfl)
        have ht := text_eq s.u []
        rw [show (⟨[].toArray⟩ : ByteArray) = ⟨#[]⟩ from rfl] at ht
        clear a1 a2 hbk hFT
        by_cases hu : s.u = ⟨#[]⟩
        · rw [decide_eq_true hu] at ht
          have hk' := q1 hu
          have how := own_of hst hk'
          have hq := (Df.own_iff s).1 how
          have ab := hq.2.1
          have y1 := hq.2.2.2.2.1
          have y2 := hq.2.2.2.2.2
          have hk1 := ((Act.act_iff s.k s.a s.n).1 ab).1.1
          have hk4 := ((Act.act_iff s.k s.a s.n).1 ab).1.2
          have nb := ((Act.act_iff s.k s.a s.n).1 ab).2.1
          have n1 := ((Act.act_iff s.k s.a s.n).1 ab).2.2.1
          have n2 := ((Act.act_iff s.k s.a s.n).1 ab).2.2.2
          have HAm : Hid (∀ w', Calls Tryd.prog 24 #[.int .i64 s.n] w' fun e w2 => e = .returned (.string (dg s.n)) ∧ w2 = w') := fun w' => amount_any s.n w' (by omega) (by omega)
          have HDi : Hid (∀ w', Calls Tryd.prog 25 #[.int .i64 s.y] w' fun e w2 => e = .returned (.string (dg s.y)) ∧ w2 = w') := fun w' => refDg_any s.y w' (by omega) (by omega)
          have z1 := dg_size s.n 15 (by omega)
          have z2 := dg_size s.y 1 (by omega)
          have z3 := name_le nb
          have z4 := (wk_name s.k hk1 hk4).2.2.2
          have hsT : stT s = 32 :: 32 :: ((wk s.k).data.toList ++ 32 :: (s.a.data.toList ++ 32 :: ((dg s.n).data.toList ++ 32 :: (Df.wTries.data.toList ++ 32 :: ((dg s.y).data.toList ++ [59, 10]))))) := by unfold stT stW; rw [hk', if_neg (by decide)]; rfl
          obtain ⟨kn, hkn⟩ : ∃ kn : Nat, s.k = (kn : Int) := ⟨s.k.toNat, by omega⟩
          obtain ⟨wl, ew, lw⟩ := to_list (wk s.k)
          obtain ⟨al, ea, la⟩ := to_list s.a
          obtain ⟨dl, ed, ld⟩ := to_list (dg s.n)
          obtain ⟨yl, ey, ly⟩ := to_list (dg s.y)
          have HWa : Hid (∀ {w' : World} {g : Nat}, StrsIn w' g [⟨#[]⟩, Df.wDebit, Df.wCredit, Df.wReserve, Df.wRelease] → w'.cell? ⟨g, kn, none⟩ = some (.string ⟨wl.toArray⟩)) := fun h => by
            have := words_at h kn (by omega) (by omega)
            rw [← hkn, ew] at this
            exact this
          have hsz : wl.length ≤ 7 ∧ al.length ≤ 16 ∧ dl.length ≤ 16 ∧ yl.length ≤ 2 := by
            rw [← lw, ← la, ← ld, ← ly]
            simp only [Array.length_toList, ByteArray.size_data]
            omega
          rw [lw, la, ld, ly] at hsT
          rw [ed] at HAm
          rw [ey] at HDi
          rw [hkn, ea] at HB0
          rw [hkn] at c0
          rw [ea] at c1
          have b1 := add_lists t0 [32, 32] (by simp only [List.length_cons, List.length_nil]; omega)
          have b2 := add_lists (t0 ++ [32, 32]) wl (by simp only [List.length_append, List.length_cons, List.length_nil]; omega)
          have b3 := add_lists (t0 ++ [32, 32] ++ wl) [32] (by simp only [List.length_append, List.length_cons, List.length_nil]; omega)
          have b4 := add_lists (t0 ++ [32, 32] ++ wl ++ [32]) al (by simp only [List.length_append, List.length_cons, List.length_nil]; omega)
          have b5 := add_lists (t0 ++ [32, 32] ++ wl ++ [32] ++ al) [32] (by simp only [List.length_append, List.length_cons, List.length_nil]; omega)
          have b6 := add_lists (t0 ++ [32, 32] ++ wl ++ [32] ++ al ++ [32]) dl (by simp only [List.length_append, List.length_cons, List.length_nil]; omega)
          have b7 := add_lists (t0 ++ [32, 32] ++ wl ++ [32] ++ al ++ [32] ++ dl) [32, 116, 114, 105, 101, 115, 32] (by simp only [List.length_append, List.length_cons, List.length_nil]; omega)
          have b8 := add_lists (t0 ++ [32, 32] ++ wl ++ [32] ++ al ++ [32] ++ dl ++ [32, 116, 114, 105, 101, 115, 32]) yl (by simp only [List.length_append, List.length_cons, List.length_nil]; omega)
          have b9 := add_lists (t0 ++ [32, 32] ++ wl ++ [32] ++ al ++ [32] ++ dl ++ [32, 116, 114, 105, 101, 115, 32] ++ yl) [59, 10] (by simp only [List.length_append, List.length_cons, List.length_nil]; omega)
          have HTN : Hid (tn = t0 ++ [32, 32] ++ wl ++ [32] ++ al ++ [32] ++ dl ++ [32, 116, 114, 105, 101, 115, 32] ++ yl ++ [59, 10]) := by show _ = _; rw [HFT.out, hsT]; simp [Df.wTries]
          generalize t0 ++ [32, 32] ++ wl ++ [32] ++ al ++ [32] ++ dl ++ [32, 116, 114, 105, 101, 115, 32] ++ yl ++ [59, 10] = s9 at *
          generalize t0 ++ [32, 32] ++ wl ++ [32] ++ al ++ [32] ++ dl ++ [32, 116, 114, 105, 101, 115, 32] ++ yl = s8 at *
          generalize t0 ++ [32, 32] ++ wl ++ [32] ++ al ++ [32] ++ dl ++ [32, 116, 114, 105, 101, 115, 32] = s7 at *
          generalize t0 ++ [32, 32] ++ wl ++ [32] ++ al ++ [32] ++ dl = s6 at *
          generalize t0 ++ [32, 32] ++ wl ++ [32] ++ al ++ [32] = s5 at *
          generalize t0 ++ [32, 32] ++ wl ++ [32] ++ al = s4 at *
          generalize t0 ++ [32, 32] ++ wl ++ [32] = s3 at *
          generalize t0 ++ [32, 32] ++ wl = s2 at *
          generalize t0 ++ [32, 32] = s1 at *
          have hk5 : (kn : Int) < 5 := by omega
          have hk5n : kn < 5 := by omega
          have ht2 : (s.u.toList == []) = true := ht
          clear ht q1 q2 hu hk' how hq ab y1 y2 hk1 hk4 nb n1 n2 z1 z2 z3 z4 hsT ew lw la ld ly hsz ed ey hst hkn ea ho
          generalize s.n = n2 at *
          generalize s.o = n3 at *
          generalize s.u = n4 at *
          generalize s.y = n5 at *
          generalize s.v = n6 at *
          go_upto_region 9 with fail
          obtain ⟨d0, d1, d2, d3, d4, d5, d6⟩ := HB0.out.cells
          have dl0 := HB0.out.lt
          refine wp_region_held_drew (S := (fun w' => Gr (wr.alloc (.cells #[.int .i64 (kn : Int), .string ⟨al.toArray⟩, .int .i64 n2, .int .i64 n3, .string n4, .int .i64 n5, .int .i64 n6] 47)) w' ∧ w'.cell? ⟨wr.heap.size, 0, none⟩ = some (.int .i64 (kn : Int)) ∧ w'.cell? ⟨wr.heap.size, 1, none⟩ = some (.string ⟨al.toArray⟩) ∧ w'.cell? ⟨wr.heap.size, 2, none⟩ = some (.int .i64 n2) ∧ w'.cell? ⟨wr.heap.size, 3, none⟩ = some (.int .i64 n3) ∧ w'.cell? ⟨wr.heap.size, 4, none⟩ = some (.string n4) ∧ w'.cell? ⟨wr.heap.size, 5, none⟩ = some (.int .i64 n5) ∧ w'.cell? ⟨wr.heap.size, 6, none⟩ = some (.int .i64 n6))) (by kernel_rfl) (by exact holdW HB0.out (by (repeat' (first | with_reducible exact Gr.refl _ | with_reducible refine Gr.set ?_ _ ?_ _ | with_reducible refine Gr.alloc ?_ | with_reducible refine Gr.drew ?_ | with_reducible refine Gr.trans ?_ (by assumption))) <;> (first | (simp; done) | (simp; omega) | omega))) (fun hHeld => ?_)
          refine take_yes 0 29 (v := ?_) rfl rfl (by kernel_rfl) (by kernel_rfl) (by kernel_rfl) (fun _ _ _ h => h) (by rfl) ?_ hHeld ?_
          rotate_left
          · (intro w hSw; (try dsimp only at hSw); go_simp; try with_reducible rfl)
          simp only [Act.put, List.setIfInBounds_toArray, List.set_cons_zero, List.set_cons_succ]
          refine take_yes 1 30 (v := ?_) rfl rfl (by kernel_rfl) (by kernel_rfl) (by kernel_rfl) (fun _ _ _ h => h) (by rfl) ?_ hHeld ?_
          rotate_left
          · (intro w hSw; (try dsimp only at hSw); go_simp; try with_reducible rfl)
          simp only [Act.put, List.setIfInBounds_toArray, List.set_cons_zero, List.set_cons_succ]
          refine take_yes 3 32 (v := ?_) rfl rfl (by kernel_rfl) (by kernel_rfl) (by kernel_rfl) (fun _ _ _ h => h) (by rfl) ?_ hHeld ?_
          rotate_left
          · (intro w hSw; (try dsimp only at hSw); go_simp; try with_reducible rfl)
          simp only [Act.put, List.setIfInBounds_toArray, List.set_cons_zero, List.set_cons_succ]
          refine take_yes 4 33 (v := ?_) rfl rfl (by kernel_rfl) (by kernel_rfl) (by kernel_rfl) (fun _ _ _ h => h) (by rfl) ?_ hHeld ?_
          rotate_left
          · (intro w hSw; (try dsimp only at hSw); go_simp; try with_reducible rfl)
          simp only [Act.put, List.setIfInBounds_toArray, List.set_cons_zero, List.set_cons_succ]
          refine take_yes 5 34 (v := ?_) rfl rfl (by kernel_rfl) (by kernel_rfl) (by kernel_rfl) (fun _ _ _ h => h) (by rfl) ?_ hHeld ?_
          rotate_left
          · (intro w hSw; (try dsimp only at hSw); go_simp; try with_reducible rfl)
          simp only [Act.put, List.setIfInBounds_toArray, List.set_cons_zero, List.set_cons_succ]
          refine take_yes 10 39 (v := ?_) rfl rfl (by kernel_rfl) (by kernel_rfl) (by kernel_rfl) (fun _ _ _ h => h) (by rfl) ?_ hHeld ?_
          rotate_left
          · (intro w hSw; (try dsimp only at hSw); go_simp; try with_reducible rfl)
          simp only [Act.put, List.setIfInBounds_toArray, List.set_cons_zero, List.set_cons_succ]
          refine take_yes 11 40 (v := ?_) rfl rfl (by kernel_rfl) (by kernel_rfl) (by kernel_rfl) (fun _ _ _ h => h) (by rfl) ?_ hHeld ?_
          rotate_left
          · (intro w hSw; (try dsimp only at hSw); go_simp; try with_reducible rfl)
          simp only [Act.put, List.setIfInBounds_toArray, List.set_cons_zero, List.set_cons_succ]
          refine take_yes 12 41 (v := ?_) rfl rfl (by kernel_rfl) (by kernel_rfl) (by kernel_rfl) (fun _ _ _ h => h) (by rfl) ?_ hHeld ?_
          rotate_left
          · (intro w hSw; (try dsimp only at hSw); go_simp; try with_reducible rfl)
          simp only [Act.put, List.setIfInBounds_toArray, List.set_cons_zero, List.set_cons_succ]
          refine take_yes 15 44 (v := ?_) rfl rfl (by kernel_rfl) (by kernel_rfl) (by kernel_rfl) (fun _ _ _ h => h) (by rfl) ?_ hHeld ?_
          rotate_left
          · (intro w hSw; (try dsimp only at hSw); go_simp; try with_reducible rfl)
          simp only [Act.put, List.setIfInBounds_toArray, List.set_cons_zero, List.set_cons_succ]
          refine take_yes 16 45 (v := ?_) rfl rfl (by kernel_rfl) (by kernel_rfl) (by kernel_rfl) (fun _ _ _ h => h) (by rfl) ?_ hHeld ?_
          rotate_left
          · (intro w hSw; (try dsimp only at hSw); go_simp; try with_reducible rfl)
          simp only [Act.put, List.setIfInBounds_toArray, List.set_cons_zero, List.set_cons_succ]
          refine take_yes 17 46 (v := ?_) rfl rfl (by kernel_rfl) (by kernel_rfl) (by kernel_rfl) (fun _ _ _ h => h) (by rfl) ?_ hHeld ?_
          rotate_left
          · (intro w hSw; (try dsimp only at hSw); go_simp; try with_reducible rfl)
          simp only [Act.put, List.setIfInBounds_toArray, List.set_cons_zero, List.set_cons_succ]
          refine take_yes 21 50 (v := ?_) rfl rfl (by kernel_rfl) (by kernel_rfl) (by kernel_rfl) (fun _ _ _ h => h) (by rfl) ?_ hHeld ?_
          rotate_left
          · (intro w hSw; (try dsimp only at hSw); go_simp; try with_reducible rfl)
          simp only [Act.put, List.setIfInBounds_toArray, List.set_cons_zero, List.set_cons_succ]
          refine take_yes 22 51 (v := ?_) rfl rfl (by kernel_rfl) (by kernel_rfl) (by kernel_rfl) (fun _ _ _ h => h) (by rfl) ?_ hHeld ?_
          rotate_left
          · (intro w hSw; (try dsimp only at hSw); go_simp; try with_reducible rfl)
          simp only [Act.put, List.setIfInBounds_toArray, List.set_cons_zero, List.set_cons_succ]
          refine wpAnyH_ready (rs := [2]) (by kernel_rfl) (by simp) (AllReadyH.cons rfl (fun K hK => ?_) AllReadyH.nil)
          go_simp
          refine (HWo.out _).mono ?_; rintro e wA ⟨rfl, hst, hltA, hgA⟩
          (try go_wp2_with fail)
          refine hK.out _ _ (by exact holdW HB0.out (by (repeat' (first | with_reducible exact Gr.refl _ | with_reducible refine Gr.set ?_ _ ?_ _ | with_reducible refine Gr.alloc ?_ | with_reducible refine Gr.drew ?_ | with_reducible refine Gr.trans ?_ (by assumption))) <;> (first | (simp; done) | (simp; omega) | omega))) (fun hHeldN => ?_)
          clear hHeld hK K
          have hHeld := hHeldN
          clear hHeldN
          have hwa : wA.cell? ⟨wr.heap.size + 1, kn, none⟩ = some (.string ⟨wl.toArray⟩) := by have := HWa.out hst; simpa using this
          have HGA : Hid (Gr (wr.alloc (.cells #[.int .i64 (kn : Int), .string ⟨al.toArray⟩, .int .i64 n2, .int .i64 n3, .string n4, .int .i64 n5, .int .i64 n6] 47)) wA) := hHeld.1
          clear hst
          refine wpAnyH_more (S2 := (fun w' => (Gr (wr.alloc (.cells #[.int .i64 (kn : Int), .string ⟨al.toArray⟩, .int .i64 n2, .int .i64 n3, .string n4, .int .i64 n5, .int .i64 n6] 47)) w' ∧ w'.cell? ⟨wr.heap.size, 0, none⟩ = some (.int .i64 (kn : Int)) ∧ w'.cell? ⟨wr.heap.size, 1, none⟩ = some (.string ⟨al.toArray⟩) ∧ w'.cell? ⟨wr.heap.size, 2, none⟩ = some (.int .i64 n2) ∧ w'.cell? ⟨wr.heap.size, 3, none⟩ = some (.int .i64 n3) ∧ w'.cell? ⟨wr.heap.size, 4, none⟩ = some (.string n4) ∧ w'.cell? ⟨wr.heap.size, 5, none⟩ = some (.int .i64 n5) ∧ w'.cell? ⟨wr.heap.size, 6, none⟩ = some (.int .i64 n6)) ∧ Gr wA w' ∧ w'.cell? ⟨wr.heap.size + 1, kn, none⟩ = some (.string ⟨wl.toArray⟩))) (by exact fun w' h => h.1) _ _ _ _ ?_
          replace hHeld : ((fun w' => (Gr (wr.alloc (.cells #[.int .i64 (kn : Int), .string ⟨al.toArray⟩, .int .i64 n2, .int .i64 n3, .string n4, .int .i64 n5, .int .i64 n6] 47)) w' ∧ w'.cell? ⟨wr.heap.size, 0, none⟩ = some (.int .i64 (kn : Int)) ∧ w'.cell? ⟨wr.heap.size, 1, none⟩ = some (.string ⟨al.toArray⟩) ∧ w'.cell? ⟨wr.heap.size, 2, none⟩ = some (.int .i64 n2) ∧ w'.cell? ⟨wr.heap.size, 3, none⟩ = some (.int .i64 n3) ∧ w'.cell? ⟨wr.heap.size, 4, none⟩ = some (.string n4) ∧ w'.cell? ⟨wr.heap.size, 5, none⟩ = some (.int .i64 n5) ∧ w'.cell? ⟨wr.heap.size, 6, none⟩ = some (.int .i64 n6)) ∧ Gr wA w' ∧ w'.cell? ⟨wr.heap.size + 1, kn, none⟩ = some (.string ⟨wl.toArray⟩))) wA := by exact holdW2 HB0.out HGA.out hwa (Gr.refl _)
          refine take_yes 6 35 (v := ?_) rfl rfl (by kernel_rfl) (by kernel_rfl) (by kernel_rfl) (fun _ _ _ h => h) (by rfl) ?_ hHeld ?_
          rotate_left
          · (intro w hSw; (try dsimp only at hSw); go_simp; try with_reducible rfl)
          simp only [Act.put, List.setIfInBounds_toArray, List.set_cons_zero, List.set_cons_succ]
          refine take_yes 7 36 (v := ?_) rfl rfl (by kernel_rfl) (by kernel_rfl) (by kernel_rfl) (fun _ _ _ h => h) (by rfl) ?_ hHeld ?_
          rotate_left
          · (intro w hSw; (try dsimp only at hSw); go_simp; try with_reducible rfl)
          simp only [Act.put, List.setIfInBounds_toArray, List.set_cons_zero, List.set_cons_succ]
          refine take_yes 8 37 (v := ?_) rfl rfl (by kernel_rfl) (by kernel_rfl) (by kernel_rfl) (fun _ _ _ h => h) (by rfl) ?_ hHeld ?_
          rotate_left
          · (intro w hSw; (try dsimp only at hSw); go_simp; try with_reducible rfl)
          simp only [Act.put, List.setIfInBounds_toArray, List.set_cons_zero, List.set_cons_succ]
          refine take_yes 9 38 (v := ?_) rfl rfl (by kernel_rfl) (by kernel_rfl) (by kernel_rfl) (fun _ _ _ h => h) (by rfl) ?_ hHeld ?_
          rotate_left
          · (intro w hSw; (try dsimp only at hSw); go_simp; try with_reducible rfl)
          simp only [Act.put, List.setIfInBounds_toArray, List.set_cons_zero, List.set_cons_succ]
          refine take_yes 13 42 (v := ?_) rfl rfl (by kernel_rfl) (by kernel_rfl) (by kernel_rfl) (fun _ _ _ h => h) (by rfl) ?_ hHeld ?_
          rotate_left
          · (intro w hSw; (try dsimp only at hSw); go_simp; try with_reducible rfl)
          simp only [Act.put, List.setIfInBounds_toArray, List.set_cons_zero, List.set_cons_succ]
          refine take_yes 14 43 (v := ?_) rfl rfl (by kernel_rfl) (by kernel_rfl) (by kernel_rfl) (fun _ _ _ h => h) (by rfl) ?_ hHeld ?_
          rotate_left
          · (intro w hSw; (try dsimp only at hSw); go_simp; try with_reducible rfl)
          simp only [Act.put, List.setIfInBounds_toArray, List.set_cons_zero, List.set_cons_succ]
          refine wpAnyH_ready (rs := [18]) (by kernel_rfl) (by simp) (AllReadyH.cons rfl (fun K hK => ?_) AllReadyH.nil)
          go_simp
          refine (HAm.out _).mono ?_; rintro e wB ⟨rfl, hw⟩; obtain rfl := hw.symm
          (try go_wp2_with fail)
          refine hK.out _ _ (by exact holdW2 HB0.out HGA.out hwa (by (repeat' (first | with_reducible exact Gr.refl _ | with_reducible refine Gr.set ?_ _ ?_ _ | with_reducible refine Gr.alloc ?_ | with_reducible refine Gr.drew ?_ | with_reducible refine Gr.trans ?_ (by assumption))) <;> (first | (simp; done) | (simp; omega) | omega))) (fun hHeldN => ?_)
          clear hHeld hK K
          have hHeld := hHeldN
          clear hHeldN
          refine take_yes 19 48 (v := ?_) rfl rfl (by kernel_rfl) (by kernel_rfl) (by kernel_rfl) (fun _ _ _ h => h) (by rfl) ?_ hHeld ?_
          rotate_left
          · (intro w hSw; (try dsimp only at hSw); go_simp; try with_reducible rfl)
          simp only [Act.put, List.setIfInBounds_toArray, List.set_cons_zero, List.set_cons_succ]
          refine take_yes 20 49 (v := ?_) rfl rfl (by kernel_rfl) (by kernel_rfl) (by kernel_rfl) (fun _ _ _ h => h) (by rfl) ?_ hHeld ?_
          rotate_left
          · (intro w hSw; (try dsimp only at hSw); go_simp; try with_reducible rfl)
          simp only [Act.put, List.setIfInBounds_toArray, List.set_cons_zero, List.set_cons_succ]
          refine wpAnyH_ready (rs := [23]) (by kernel_rfl) (by simp) (AllReadyH.cons rfl (fun K hK => ?_) AllReadyH.nil)
          go_simp
          refine (HDi.out _).mono ?_; rintro e wB ⟨rfl, hw⟩; obtain rfl := hw.symm
          (try go_wp2_with fail)
          refine hK.out _ _ (by exact holdW2 HB0.out HGA.out hwa (by (repeat' (first | with_reducible exact Gr.refl _ | with_reducible refine Gr.set ?_ _ ?_ _ | with_reducible refine Gr.alloc ?_ | with_reducible refine Gr.drew ?_ | with_reducible refine Gr.trans ?_ (by assumption))) <;> (first | (simp; done) | (simp; omega) | omega))) (fun hHeldN => ?_)
          clear hHeld hK K
          have hHeld := hHeldN
          clear hHeldN
          refine take_yes 24 53 (v := ?_) rfl rfl (by kernel_rfl) (by kernel_rfl) (by kernel_rfl) (fun _ _ _ h => h) (by rfl) ?_ hHeld ?_
          rotate_left
          · (intro w hSw; (try dsimp only at hSw); go_simp; try with_reducible rfl)
          simp only [Act.put, List.setIfInBounds_toArray, List.set_cons_zero, List.set_cons_succ]
          refine take_yes 25 54 (v := ?_) rfl rfl (by kernel_rfl) (by kernel_rfl) (by kernel_rfl) (fun _ _ _ h => h) (by rfl) ?_ hHeld ?_
          rotate_left
          · (intro w hSw; (try dsimp only at hSw); go_simp; try with_reducible rfl)
          simp only [Act.put, List.setIfInBounds_toArray, List.set_cons_zero, List.set_cons_succ]
          refine take_yes 26 4 (v := ?_) rfl rfl (by kernel_rfl) (by kernel_rfl) (by kernel_rfl) (fun _ _ _ h => h) (by rfl) ?_ hHeld ?_
          rotate_left
          · (intro w hSw; (try dsimp only at hSw); go_simp; try with_reducible rfl)
          simp only [Act.put, List.setIfInBounds_toArray, List.set_cons_zero, List.set_cons_succ]
          refine wpAnyH_done (by kernel_rfl) ?_ _
          go_wp2
          go_roundw
          case rel => exact ⟨k + 1, by omega, by go_num, by rw [HTn.out, HTN.out], (HXw.out.gr (Gr.refl _).alloc).gr HGA.out, HG.out.alloc.trans HGA.out⟩
          case measure => simp [intOf]; omega
        · rw [decide_eq_false hu] at ht
          have hk' := q2 hu
          have hq := (Df.ask_iff s).1 hk'
          have nb := hq.1
          have o1 := hq.2.2.2.2.2.1
          have o2 := hq.2.2.2.2.2.2.1
          have v1 := hq.2.2.2.2.2.2.2.1
          have v2 := hq.2.2.2.2.2.2.2.2
          have HAm : Hid (∀ w', Calls Tryd.prog 25 #[.int .i64 s.o] w' fun e w2 => e = .returned (.string (dg s.o)) ∧ w2 = w') := fun w' => refDg_any s.o w' (by omega) (by omega)
          have HDi : Hid (∀ w', Calls Tryd.prog 25 #[.int .i64 s.v] w' fun e w2 => e = .returned (.string (dg s.v)) ∧ w2 = w') := fun w' => refDg_any s.v w' (by omega) (by omega)
          have z1 := dg_size s.o 1 (by omega)
          have z2 := dg_size s.v 1 (by omega)
          have z3 := name_le nb
          have hsT : stT s = 32 :: 32 :: (Df.wAsk.data.toList ++ 32 :: ((dg s.o).data.toList ++ 32 :: (s.u.data.toList ++ 32 :: (Df.wWait.data.toList ++ 32 :: ((dg s.v).data.toList ++ [59, 10]))))) := by unfold stT stW; rw [hk', if_pos rfl]; rfl
          obtain ⟨al, ea, la⟩ := to_list s.u
          obtain ⟨dl, ed, ld⟩ := to_list (dg s.o)
          obtain ⟨yl, ey, ly⟩ := to_list (dg s.v)
          have hsz : al.length ≤ 16 ∧ dl.length ≤ 2 ∧ yl.length ≤ 2 := by
            rw [← la, ← ld, ← ly]
            simp only [Array.length_toList, ByteArray.size_data]
            omega
          rw [la, ld, ly] at hsT
          rw [ed] at HAm
          rw [ey] at HDi
          have ht2 : (s.u.toList == []) = false := ht
          have hal : al ≠ [] := fun e => hu (by rw [ea, e])
          have hal2 : (al == []) = false := by simpa using hal
          rw [ea] at HB0 c4 ht2
          have b1 := add_lists t0 [32, 32, 97, 115, 107, 32] (by simp only [List.length_cons, List.length_nil]; omega)
          have b2 := add_lists (t0 ++ [32, 32, 97, 115, 107, 32]) dl (by simp only [List.length_append, List.length_cons, List.length_nil]; omega)
          have b3 := add_lists (t0 ++ [32, 32, 97, 115, 107, 32] ++ dl) [32] (by simp only [List.length_append, List.length_cons, List.length_nil]; omega)
          have b4 := add_lists (t0 ++ [32, 32, 97, 115, 107, 32] ++ dl ++ [32]) al (by simp only [List.length_append, List.length_cons, List.length_nil]; omega)
          have b5 := add_lists (t0 ++ [32, 32, 97, 115, 107, 32] ++ dl ++ [32] ++ al) [32, 119, 97, 105, 116, 32] (by simp only [List.length_append, List.length_cons, List.length_nil]; omega)
          have b6 := add_lists (t0 ++ [32, 32, 97, 115, 107, 32] ++ dl ++ [32] ++ al ++ [32, 119, 97, 105, 116, 32]) yl (by simp only [List.length_append, List.length_cons, List.length_nil]; omega)
          have b7 := add_lists (t0 ++ [32, 32, 97, 115, 107, 32] ++ dl ++ [32] ++ al ++ [32, 119, 97, 105, 116, 32] ++ yl) [59, 10] (by simp only [List.length_append, List.length_cons, List.length_nil]; omega)
          have HTN : Hid (tn = t0 ++ [32, 32, 97, 115, 107, 32] ++ dl ++ [32] ++ al ++ [32, 119, 97, 105, 116, 32] ++ yl ++ [59, 10]) := by show _ = _; rw [HFT.out, hsT]; simp [Df.wAsk, Df.wWait]
          generalize t0 ++ [32, 32, 97, 115, 107, 32] ++ dl ++ [32] ++ al ++ [32, 119, 97, 105, 116, 32] ++ yl ++ [59, 10] = s7 at *
          generalize t0 ++ [32, 32, 97, 115, 107, 32] ++ dl ++ [32] ++ al ++ [32, 119, 97, 105, 116, 32] ++ yl = s6 at *
          generalize t0 ++ [32, 32, 97, 115, 107, 32] ++ dl ++ [32] ++ al ++ [32, 119, 97, 105, 116, 32] = s5 at *
          generalize t0 ++ [32, 32, 97, 115, 107, 32] ++ dl ++ [32] ++ al = s4 at *
          generalize t0 ++ [32, 32, 97, 115, 107, 32] ++ dl ++ [32] = s3 at *
          generalize t0 ++ [32, 32, 97, 115, 107, 32] ++ dl = s2 at *
          generalize t0 ++ [32, 32, 97, 115, 107, 32] = s1 at *
          clear ht q1 q2 hu hk' hq nb o1 o2 v1 v2 z1 z2 z3 hsT la ld ly hsz ed ey hst ea ho
          generalize s.k = n0 at *
          generalize s.a = n1 at *
          generalize s.n = n2 at *
          generalize s.o = n3 at *
          generalize s.y = n5 at *
          generalize s.v = n6 at *
          go_upto_region 10 with fail
          obtain ⟨d0, d1, d2, d3, d4, d5, d6⟩ := HB0.out.cells
          have dl0 := HB0.out.lt
          refine wp_region_held_drew (S := (fun w' => Gr (wr.alloc (.cells #[.int .i64 n0, .string n1, .int .i64 n2, .int .i64 n3, .string ⟨al.toArray⟩, .int .i64 n5, .int .i64 n6] 47)) w' ∧ w'.cell? ⟨wr.heap.size, 0, none⟩ = some (.int .i64 n0) ∧ w'.cell? ⟨wr.heap.size, 1, none⟩ = some (.string n1) ∧ w'.cell? ⟨wr.heap.size, 2, none⟩ = some (.int .i64 n2) ∧ w'.cell? ⟨wr.heap.size, 3, none⟩ = some (.int .i64 n3) ∧ w'.cell? ⟨wr.heap.size, 4, none⟩ = some (.string ⟨al.toArray⟩) ∧ w'.cell? ⟨wr.heap.size, 5, none⟩ = some (.int .i64 n5) ∧ w'.cell? ⟨wr.heap.size, 6, none⟩ = some (.int .i64 n6))) (by kernel_rfl) (by exact holdW HB0.out (by (repeat' (first | with_reducible exact Gr.refl _ | with_reducible refine Gr.set ?_ _ ?_ _ | with_reducible refine Gr.alloc ?_ | with_reducible refine Gr.drew ?_ | with_reducible refine Gr.trans ?_ (by assumption))) <;> (first | (simp; done) | (simp; omega) | omega))) (fun hHeld => ?_)
          refine take_yes 0 55 (v := ?_) rfl rfl (by kernel_rfl) (by kernel_rfl) (by kernel_rfl) (fun _ _ _ h => h) (by rfl) ?_ hHeld ?_
          rotate_left
          · (intro w hSw; (try dsimp only at hSw); go_simp; try with_reducible rfl)
          simp only [Act.put, List.setIfInBounds_toArray, List.set_cons_zero, List.set_cons_succ]
          refine take_yes 1 56 (v := ?_) rfl rfl (by kernel_rfl) (by kernel_rfl) (by kernel_rfl) (fun _ _ _ h => h) (by rfl) ?_ hHeld ?_
          rotate_left
          · (intro w hSw; (try dsimp only at hSw); go_simp; try with_reducible rfl)
          simp only [Act.put, List.setIfInBounds_toArray, List.set_cons_zero, List.set_cons_succ]
          refine take_yes 2 57 (v := ?_) rfl rfl (by kernel_rfl) (by kernel_rfl) (by kernel_rfl) (fun _ _ _ h => h) (by rfl) ?_ hHeld ?_
          rotate_left
          · (intro w hSw; (try dsimp only at hSw); go_simp; try with_reducible rfl)
          simp only [Act.put, List.setIfInBounds_toArray, List.set_cons_zero, List.set_cons_succ]
          refine take_yes 3 58 (v := ?_) rfl rfl (by kernel_rfl) (by kernel_rfl) (by kernel_rfl) (fun _ _ _ h => h) (by rfl) ?_ hHeld ?_
          rotate_left
          · (intro w hSw; (try dsimp only at hSw); go_simp; try with_reducible rfl)
          simp only [Act.put, List.setIfInBounds_toArray, List.set_cons_zero, List.set_cons_succ]
          refine take_yes 7 62 (v := ?_) rfl rfl (by kernel_rfl) (by kernel_rfl) (by kernel_rfl) (fun _ _ _ h => h) (by rfl) ?_ hHeld ?_
          rotate_left
          · (intro w hSw; (try dsimp only at hSw); go_simp; try with_reducible rfl)
          simp only [Act.put, List.setIfInBounds_toArray, List.set_cons_zero, List.set_cons_succ]
          refine take_yes 8 63 (v := ?_) rfl rfl (by kernel_rfl) (by kernel_rfl) (by kernel_rfl) (fun _ _ _ h => h) (by rfl) ?_ hHeld ?_
          rotate_left
          · (intro w hSw; (try dsimp only at hSw); go_simp; try with_reducible rfl)
          simp only [Act.put, List.setIfInBounds_toArray, List.set_cons_zero, List.set_cons_succ]
          refine take_yes 11 66 (v := ?_) rfl rfl (by kernel_rfl) (by kernel_rfl) (by kernel_rfl) (fun _ _ _ h => h) (by rfl) ?_ hHeld ?_
          rotate_left
          · (intro w hSw; (try dsimp only at hSw); go_simp; try with_reducible rfl)
          simp only [Act.put, List.setIfInBounds_toArray, List.set_cons_zero, List.set_cons_succ]
          refine take_yes 12 67 (v := ?_) rfl rfl (by kernel_rfl) (by kernel_rfl) (by kernel_rfl) (fun _ _ _ h => h) (by rfl) ?_ hHeld ?_
          rotate_left
          · (intro w hSw; (try dsimp only at hSw); go_simp; try with_reducible rfl)
          simp only [Act.put, List.setIfInBounds_toArray, List.set_cons_zero, List.set_cons_succ]
          refine wpAnyH_ready (rs := [4]) (by kernel_rfl) (by simp) (AllReadyH.cons rfl (fun K hK => ?_) AllReadyH.nil)
          go_simp
          refine (HAm.out _).mono ?_; rintro e wB ⟨rfl, hw⟩; obtain rfl := hw.symm
          (try go_wp2_with fail)
          refine hK.out _ _ (by exact holdW HB0.out (by (repeat' (first | with_reducible exact Gr.refl _ | with_reducible refine Gr.set ?_ _ ?_ _ | with_reducible refine Gr.alloc ?_ | with_reducible refine Gr.drew ?_ | with_reducible refine Gr.trans ?_ (by assumption))) <;> (first | (simp; done) | (simp; omega) | omega))) (fun hHeldN => ?_)
          clear hHeld hK K
          have hHeld := hHeldN
          clear hHeldN
          refine take_yes 5 60 (v := ?_) rfl rfl (by kernel_rfl) (by kernel_rfl) (by kernel_rfl) (fun _ _ _ h => h) (by rfl) ?_ hHeld ?_
          rotate_left
          · (intro w hSw; (try dsimp only at hSw); go_simp; try with_reducible rfl)
          simp only [Act.put, List.setIfInBounds_toArray, List.set_cons_zero, List.set_cons_succ]
          refine take_yes 6 61 (v := ?_) rfl rfl (by kernel_rfl) (by kernel_rfl) (by kernel_rfl) (fun _ _ _ h => h) (by rfl) ?_ hHeld ?_
          rotate_left
          · (intro w hSw; (try dsimp only at hSw); go_simp; try with_reducible rfl)
          simp only [Act.put, List.setIfInBounds_toArray, List.set_cons_zero, List.set_cons_succ]
          refine take_yes 9 64 (v := ?_) rfl rfl (by kernel_rfl) (by kernel_rfl) (by kernel_rfl) (fun _ _ _ h => h) (by rfl) ?_ hHeld ?_
          rotate_left
          · (intro w hSw; (try dsimp only at hSw); go_simp; try with_reducible rfl)
          simp only [Act.put, List.setIfInBounds_toArray, List.set_cons_zero, List.set_cons_succ]
          refine take_yes 10 65 (v := ?_) rfl rfl (by kernel_rfl) (by kernel_rfl) (by kernel_rfl) (fun _ _ _ h => h) (by rfl) ?_ hHeld ?_
          rotate_left
          · (intro w hSw; (try dsimp only at hSw); go_simp; try with_reducible rfl)
          simp only [Act.put, List.setIfInBounds_toArray, List.set_cons_zero, List.set_cons_succ]
          refine wpAnyH_ready (rs := [13]) (by kernel_rfl) (by simp) (AllReadyH.cons rfl (fun K hK => ?_) AllReadyH.nil)
          go_simp
          refine (HDi.out _).mono ?_; rintro e wB ⟨rfl, hw⟩; obtain rfl := hw.symm
          (try go_wp2_with fail)
          refine hK.out _ _ (by exact holdW HB0.out (by (repeat' (first | with_reducible exact Gr.refl _ | with_reducible refine Gr.set ?_ _ ?_ _ | with_reducible refine Gr.alloc ?_ | with_reducible refine Gr.drew ?_ | with_reducible refine Gr.trans ?_ (by assumption))) <;> (first | (simp; done) | (simp; omega) | omega))) (fun hHeldN => ?_)
          clear hHeld hK K
          have hHeld := hHeldN
          clear hHeldN
          refine take_yes 14 69 (v := ?_) rfl rfl (by kernel_rfl) (by kernel_rfl) (by kernel_rfl) (fun _ _ _ h => h) (by rfl) ?_ hHeld ?_
          rotate_left
          · (intro w hSw; (try dsimp only at hSw); go_simp; try with_reducible rfl)
          simp only [Act.put, List.setIfInBounds_toArray, List.set_cons_zero, List.set_cons_succ]
          refine take_yes 15 70 (v := ?_) rfl rfl (by kernel_rfl) (by kernel_rfl) (by kernel_rfl) (fun _ _ _ h => h) (by rfl) ?_ hHeld ?_
          rotate_left
          · (intro w hSw; (try dsimp only at hSw); go_simp; try with_reducible rfl)
          simp only [Act.put, List.setIfInBounds_toArray, List.set_cons_zero, List.set_cons_succ]
          refine take_yes 16 4 (v := ?_) rfl rfl (by kernel_rfl) (by kernel_rfl) (by kernel_rfl) (fun _ _ _ h => h) (by rfl) ?_ hHeld ?_
          rotate_left
          · (intro w hSw; (try dsimp only at hSw); go_simp; try with_reducible rfl)
          simp only [Act.put, List.setIfInBounds_toArray, List.set_cons_zero, List.set_cons_succ]
          refine wpAnyH_done (by kernel_rfl) ?_ _
          have HGA := Lib.hid hHeld.1
          go_wp2
          go_roundw
          case rel => exact ⟨k + 1, by omega, by go_num, by rw [HTn.out, HTN.out], (HXw.out.gr (Gr.refl _).alloc).gr HGA.out, HG.out.alloc.trans HGA.out⟩
          case measure => simp [intOf]; omega
      · obtain rfl : k = L.length := by omega
        rw [List.take_length]
        rw [List.take_length] at hbk
        have a6 := add_lists (HD ++ L.flatMap stT) [125, 10] (by simp only [List.length_append, List.length_cons, List.length_nil] at hH ⊢; omega)
        have HTT : Hid (RT = HD ++ L.flatMap stT ++ [125, 10]) := HT.out
        generalize HD ++ L.flatMap stT ++ [125, 10] = t7 at *
        generalize HD ++ L.flatMap stT = t6 at *
        go_wp2
        go_ret2
        exact ⟨by rw [HTT.out]; rfl, HG.out⟩
end Go.Proofs.YtdliljijgokpjaaDoor
namespace Go.Proofs.YtdliljijgokpjaaDoor
open Go.ChangeShapes Go.WideShapes Go.ChangeAt Go.RowKit
open Go.ChangeMaps (open_string shut_string)
open Df (Stp defB chE tk pE pA pT pN pL)
open Lex (Tok scT scF scA ckE)

theorem hold22 {a b : World} {g h : Nat} {x y u v : Value} (p : TwoAt a g x y) (q : TwoAt a h u v) (k : Gr a b) : Gr a b ∧ b.cell? ⟨g, 0, none⟩ = some x ∧ b.cell? ⟨g, 1, none⟩ = some y ∧ b.cell? ⟨h, 0, none⟩ = some u ∧ b.cell? ⟨h, 1, none⟩ = some v := ⟨k, k.keep p.c0, k.keep p.c1, k.keep q.c0, k.keep q.c1⟩

set_option maxHeartbeats 8000000 in
set_option maxRecDepth 100000 in
theorem defChecks_walk (nm0 : ByteArray) (L0 : List Stp) (ad0 : Option Addr) (cap0 : Nat) (nm1 : ByteArray) (L1 : List Stp) (ad1 : Option Addr) (cap1 : Nat) (w : World) (he : Env w) (hs0 : nm0.size ≤ 9223372036854775807) (hL0 : StpsAt w ad0 L0) (hn0 : L0.length ≤ 9223372036854775807) (hz0 : ∀ s ∈ L0, inS s) (hs1 : nm1.size ≤ 9223372036854775807) (hL1 : StpsAt w ad1 L1) (hn1 : L1.length ≤ 9223372036854775807) (hz1 : ∀ s ∈ L1, inS s) :
    Calls Tryd.prog 3 #[.agg #[.string nm0, .slice ad0 L0.length cap0], .agg #[.string nm1, .slice ad1 L1.length cap1]] w fun e w' => e = .returned (.bool true) ∧ Gr w w' := by
  have HA : Hid (∀ w', Gr w w' → Calls Tryd.prog 9 #[] w' fun e w2 => e = .returned (.bool true) ∧ Gr w' w2) := fun w' g => awake_any w' (he.gr g)
  have HF0 : Hid (∀ w', Calls Tryd.prog 8 #[.agg #[.string nm0, .slice ad0 L0.length cap0]] w' fun e w2 => e = .returned (.bool (decide ((L0.length : Int) ≤ 1000))) ∧ Gr w' w2) := fun w' => few_any nm0 L0 ad0 cap0 w'
  have HF1 : Hid (∀ w', Calls Tryd.prog 8 #[.agg #[.string nm1, .slice ad1 L1.length cap1]] w' fun e w2 => e = .returned (.bool (decide ((L1.length : Int) ≤ 1000))) ∧ Gr w' w2) := fun w' => few_any nm1 L1 ad1 cap1 w'
  have HS : Hid (∀ w', Gr w w' → Calls Tryd.prog 10 #[.agg #[.string nm0, .slice ad0 L0.length cap0]] w' fun e w2 => e = .returned (.tuple #[.string (shE nm0 L0), .int .i64 (chE nm0 L0)]) ∧ Gr w' w2) := fun w' g => dShow_any nm0 L0 ad0 cap0 w' (hL0.gr g) hs0 hn0 hz0 (he.gr g)
  have HR : Hid (∀ w', Gr w w' → Calls Tryd.prog 11 #[.agg #[.string nm0, .slice ad0 L0.length cap0]] w' fun e w2 => e = .returned (.tuple #[.string (shE nm0 L0), .int .i64 (chE nm0 L0)]) ∧ Gr w' w2) := fun w' g => refDShow_any nm0 L0 ad0 cap0 w' (hL0.gr g) hs0 hn0 hz0
  have HC : Hid (∀ w', Gr w w' → Calls Tryd.prog 12 #[.agg #[.string nm0, .slice ad0 L0.length cap0]] w' fun e w2 => e = .returned (.int .i64 (chE nm0 L0)) ∧ Gr w' w2) := fun w' g => dCheck_any nm0 L0 ad0 cap0 w' (hL0.gr g) hs0 hn0 hz0
  have HD : Hid (∀ w', Gr w w' → Calls Tryd.prog 13 #[.agg #[.string nm0, .slice ad0 L0.length cap0]] w' fun e w2 => e = .returned (.int .i64 (chE nm0 L0)) ∧ Gr w' w2) := fun w' g => refDCheck_any nm0 L0 ad0 cap0 w' (hL0.gr g) hs0 hn0 hz0
  have HM : Hid (∀ w', Gr w w' → Calls Tryd.prog 14 #[.agg #[.string nm0, .slice ad0 L0.length cap0], .agg #[.string nm1, .slice ad1 L1.length cap1]] w' fun e w2 => e = .returned (.bool (samB nm0 L0 nm1 L1)) ∧ Gr w' w2) := fun w' g => dSame_any nm0 L0 ad0 cap0 nm1 L1 ad1 cap1 w' (hL0.gr g) (hL1.gr g) hs0 hn0 hn1 hz0
  have HN : Hid (∀ w', Gr w w' → Calls Tryd.prog 15 #[.agg #[.string nm0, .slice ad0 L0.length cap0], .agg #[.string nm1, .slice ad1 L1.length cap1]] w' fun e w2 => e = .returned (.bool (samB nm0 L0 nm1 L1)) ∧ Gr w' w2) := fun w' g => refDSame_any nm0 L0 ad0 cap0 nm1 L1 ad1 cap1 w' (hL0.gr g) (hL1.gr g) hs0 hs1 hn0 hn1 hz0 hz1
  have HX0 := Lib.hid ((TwoAt.new w (.string nm0) (.slice ad0 L0.length cap0) 24 _ rfl).gr (Gr.refl _).alloc (w' := (w.alloc (.cells #[.string nm0, .slice ad0 L0.length cap0] 24)).alloc (.cells #[.string nm1, .slice ad1 L1.length cap1] 24)))
  have HY0 := Lib.hid (TwoAt.new (w.alloc (.cells #[.string nm0, .slice ad0 L0.length cap0] 24)) (.string nm1) (.slice ad1 L1.length cap1) 24 (w.heap.size + 1) (by simp))
  generalize shE nm0 L0 = SE at *
  generalize chE nm0 L0 = CE at *
  generalize samB nm0 L0 nm1 L1 = SB at *
  clear hL0 hL1 hz0 hz1 he hs0 hs1
  have endA : ∀ (w1 : World), Gr w w1 → Calls Tryd.prog 9 #[] w1 fun e w2 => e = .returned (.bool true) ∧ Gr w1 w2 := fun w1 g => HA.out w1 g
  by_cases h0 : (L0.length : Int) ≤ 1000
  · rw [decide_eq_true h0] at HF0
    by_cases h1 : (L1.length : Int) ≤ 1000
    · rw [decide_eq_true h1] at HF1
      clear h0 h1 endA
      go_enter Tryd.func3, Tryd.ntmps3
      go_wp2_with fail
      refine (HF0.out _).mono ?_
      rintro e w1 ⟨rfl, hg⟩
      have HG1 : Hid (Gr w w1) := (Gr.refl _).alloc.alloc.trans hg
      have HX1 := Lib.hid (HX0.out.gr hg)
      have HY1 := Lib.hid (HY0.out.gr hg)
      obtain ⟨y0, y1, _, _, yl⟩ := HY1.out
      clear hg
      go_wp2_with fail
      refine (HF1.out _).mono ?_
      rintro e w2 ⟨rfl, hg⟩
      have HG2 : Hid (Gr w w2) := HG1.out.trans hg
      have HX2 := Lib.hid (HX1.out.gr hg)
      have HY2 := Lib.hid (HY1.out.gr hg)
      obtain ⟨x0, x1, _, _, xl⟩ := HX2.out
      clear hg y0 y1 yl
      go_wp2_with fail
      refine (HS.out _ HG2.out).mono ?_
      rintro e w3 ⟨rfl, hg⟩
      have HG3 : Hid (Gr w w3) := HG2.out.trans hg
      have HX3 := Lib.hid (HX2.out.gr hg)
      have HY3 := Lib.hid (HY2.out.gr hg)
      clear hg x0 x1 xl
      obtain ⟨x0, x1, _, _, xl⟩ := HX3.out
      go_wp2_with fail
      refine (HR.out _ HG3.out).mono ?_
      rintro e w4 ⟨rfl, hg⟩
      have HG4 : Hid (Gr w w4) := HG3.out.trans hg
      have HX4 := Lib.hid (HX3.out.gr hg)
      have HY4 := Lib.hid (HY3.out.gr hg)
      clear hg x0 x1 xl
      obtain ⟨x0, x1, _, _, xl⟩ := HX4.out
      obtain ⟨y0, y1, _, _, yl⟩ := HY4.out
      have q1 : (CE == CE) = true := by simp
      have q2 : (SB == SB) = true := by simp
      have q3 : (SE.toList == SE.toList) = true := by simp
      go_upto_region 5 with fail
      refine wp_region_held_drew (S := (fun w' => Gr w4 w' ∧ w'.cell? ⟨w.heap.size, 0, none⟩ = some (.string nm0) ∧ w'.cell? ⟨w.heap.size, 1, none⟩ = some (.slice ad0 L0.length cap0) ∧ w'.cell? ⟨w.heap.size + 1, 0, none⟩ = some (.string nm1) ∧ w'.cell? ⟨w.heap.size + 1, 1, none⟩ = some (.slice ad1 L1.length cap1))) (by kernel_rfl) (by exact hold22 HX4.out HY4.out (by (repeat' (first | with_reducible exact Gr.refl _ | with_reducible refine Gr.set ?_ _ ?_ _ | with_reducible refine Gr.alloc ?_ | with_reducible refine Gr.drew ?_ | with_reducible refine Gr.trans ?_ (by assumption))) <;> (first | (simp; done) | (simp; omega) | omega))) (fun hHeld => ?_)
      refine take_yes 0 28 (v := ?_) rfl rfl (by kernel_rfl) (by kernel_rfl) (by kernel_rfl) (fun _ _ _ h => h) (by rfl) ?_ hHeld ?_
      rotate_left
      · (intro w hSw; (try dsimp only at hSw); go_simp; try with_reducible rfl)
      simp only [Act.put, List.setIfInBounds_toArray, List.set_cons_zero, List.set_cons_succ]
      refine take_yes 2 30 (v := ?_) rfl rfl (by kernel_rfl) (by kernel_rfl) (by kernel_rfl) (fun _ _ _ h => h) (by rfl) ?_ hHeld ?_
      rotate_left
      · (intro w hSw; (try dsimp only at hSw); go_simp; try with_reducible rfl)
      simp only [Act.put, List.setIfInBounds_toArray, List.set_cons_zero, List.set_cons_succ]
      refine wpAnyH_ready (rs := [1]) (by kernel_rfl) (by simp) (AllReadyH.cons rfl (fun K hK => ?_) AllReadyH.nil)
      go_simp
      refine (HC.out _ (HG4.out.trans (by (repeat' (first | with_reducible exact Gr.refl _ | with_reducible refine Gr.set ?_ _ ?_ _ | with_reducible refine Gr.alloc ?_ | with_reducible refine Gr.drew ?_ | with_reducible refine Gr.trans ?_ (by assumption))) <;> (first | (simp; done) | (simp; omega) | omega)))).mono ?_; rintro e w5 ⟨rfl, hg5⟩
      (try go_wp2_with fail)
      refine hK.out _ _ (by exact hold22 HX4.out HY4.out (by (repeat' (first | with_reducible exact Gr.refl _ | with_reducible refine Gr.set ?_ _ ?_ _ | with_reducible refine Gr.alloc ?_ | with_reducible refine Gr.drew ?_ | with_reducible refine Gr.trans ?_ (by assumption))) <;> (first | (simp; done) | (simp; omega) | omega))) (fun hHeldN => ?_)
      clear hHeld hK K
      have hHeld := hHeldN
      clear hHeldN
      refine wpAnyH_ready (rs := [3]) (by kernel_rfl) (by simp) (AllReadyH.cons rfl (fun K hK => ?_) AllReadyH.nil)
      go_simp
      refine (HD.out _ (HG4.out.trans (by (repeat' (first | with_reducible exact Gr.refl _ | with_reducible refine Gr.set ?_ _ ?_ _ | with_reducible refine Gr.alloc ?_ | with_reducible refine Gr.drew ?_ | with_reducible refine Gr.trans ?_ (by assumption))) <;> (first | (simp; done) | (simp; omega) | omega)))).mono ?_; rintro e w6 ⟨rfl, hg6⟩
      (try go_wp2_with fail)
      refine hK.out _ _ (by exact hold22 HX4.out HY4.out (by (repeat' (first | with_reducible exact Gr.refl _ | with_reducible refine Gr.set ?_ _ ?_ _ | with_reducible refine Gr.alloc ?_ | with_reducible refine Gr.drew ?_ | with_reducible refine Gr.trans ?_ (by assumption))) <;> (first | (simp; done) | (simp; omega) | omega))) (fun hHeldN => ?_)
      clear hHeld hK K
      have hHeld := hHeldN
      clear hHeldN
      refine take_yes 4 32 (v := ?_) rfl rfl (by kernel_rfl) (by kernel_rfl) (by kernel_rfl) (fun _ _ _ h => h) (by rfl) ?_ hHeld ?_
      rotate_left
      · (intro w hSw; (try dsimp only at hSw); go_simp; try with_reducible rfl)
      simp only [Act.put, List.setIfInBounds_toArray, List.set_cons_zero, List.set_cons_succ]
      refine take_yes 5 33 (v := ?_) rfl rfl (by kernel_rfl) (by kernel_rfl) (by kernel_rfl) (fun _ _ _ h => h) (by rfl) ?_ hHeld ?_
      rotate_left
      · (intro w hSw; (try dsimp only at hSw); go_simp; try with_reducible rfl)
      simp only [Act.put, List.setIfInBounds_toArray, List.set_cons_zero, List.set_cons_succ]
      refine take_yes 6 34 (v := ?_) rfl rfl (by kernel_rfl) (by kernel_rfl) (by kernel_rfl) (fun _ _ _ h => h) (by rfl) ?_ hHeld ?_
      rotate_left
      · (intro w hSw; (try dsimp only at hSw); go_simp; try with_reducible rfl)
      simp only [Act.put, List.setIfInBounds_toArray, List.set_cons_zero, List.set_cons_succ]
      refine take_yes 7 35 (v := ?_) rfl rfl (by kernel_rfl) (by kernel_rfl) (by kernel_rfl) (fun _ _ _ h => h) (by rfl) ?_ hHeld ?_
      rotate_left
      · (intro w hSw; (try dsimp only at hSw); go_simp; try with_reducible rfl)
      simp only [Act.put, List.setIfInBounds_toArray, List.set_cons_zero, List.set_cons_succ]
      refine take_yes 9 37 (v := ?_) rfl rfl (by kernel_rfl) (by kernel_rfl) (by kernel_rfl) (fun _ _ _ h => h) (by rfl) ?_ hHeld ?_
      rotate_left
      · (intro w hSw; (try dsimp only at hSw); go_simp; try with_reducible rfl)
      simp only [Act.put, List.setIfInBounds_toArray, List.set_cons_zero, List.set_cons_succ]
      refine take_yes 10 38 (v := ?_) rfl rfl (by kernel_rfl) (by kernel_rfl) (by kernel_rfl) (fun _ _ _ h => h) (by rfl) ?_ hHeld ?_
      rotate_left
      · (intro w hSw; (try dsimp only at hSw); go_simp; try with_reducible rfl)
      simp only [Act.put, List.setIfInBounds_toArray, List.set_cons_zero, List.set_cons_succ]
      refine wpAnyH_ready (rs := [8]) (by kernel_rfl) (by simp) (AllReadyH.cons rfl (fun K hK => ?_) AllReadyH.nil)
      go_simp
      refine (HM.out _ (HG4.out.trans (by (repeat' (first | with_reducible exact Gr.refl _ | with_reducible refine Gr.set ?_ _ ?_ _ | with_reducible refine Gr.alloc ?_ | with_reducible refine Gr.drew ?_ | with_reducible refine Gr.trans ?_ (by assumption))) <;> (first | (simp; done) | (simp; omega) | omega)))).mono ?_; rintro e w7 ⟨rfl, hg7⟩
      (try go_wp2_with fail)
      refine hK.out _ _ (by exact hold22 HX4.out HY4.out (by (repeat' (first | with_reducible exact Gr.refl _ | with_reducible refine Gr.set ?_ _ ?_ _ | with_reducible refine Gr.alloc ?_ | with_reducible refine Gr.drew ?_ | with_reducible refine Gr.trans ?_ (by assumption))) <;> (first | (simp; done) | (simp; omega) | omega))) (fun hHeldN => ?_)
      clear hHeld hK K
      have hHeld := hHeldN
      clear hHeldN
      refine wpAnyH_ready (rs := [11]) (by kernel_rfl) (by simp) (AllReadyH.cons rfl (fun K hK => ?_) AllReadyH.nil)
      go_simp
      refine (HN.out _ (HG4.out.trans (by (repeat' (first | with_reducible exact Gr.refl _ | with_reducible refine Gr.set ?_ _ ?_ _ | with_reducible refine Gr.alloc ?_ | with_reducible refine Gr.drew ?_ | with_reducible refine Gr.trans ?_ (by assumption))) <;> (first | (simp; done) | (simp; omega) | omega)))).mono ?_; rintro e w8 ⟨rfl, hg8⟩
      (try go_wp2_with fail)
      refine hK.out _ _ (by exact hold22 HX4.out HY4.out (by (repeat' (first | with_reducible exact Gr.refl _ | with_reducible refine Gr.set ?_ _ ?_ _ | with_reducible refine Gr.alloc ?_ | with_reducible refine Gr.drew ?_ | with_reducible refine Gr.trans ?_ (by assumption))) <;> (first | (simp; done) | (simp; omega) | omega))) (fun hHeldN => ?_)
      clear hHeld hK K
      have hHeld := hHeldN
      clear hHeldN
      refine take_yes 12 40 (v := ?_) rfl rfl (by kernel_rfl) (by kernel_rfl) (by kernel_rfl) (fun _ _ _ h => h) (by rfl) ?_ hHeld ?_
      rotate_left
      · (intro w hSw; (try dsimp only at hSw); go_simp; try with_reducible rfl)
      simp only [Act.put, List.setIfInBounds_toArray, List.set_cons_zero, List.set_cons_succ]
      refine take_yes 13 41 (v := ?_) rfl rfl (by kernel_rfl) (by kernel_rfl) (by kernel_rfl) (fun _ _ _ h => h) (by rfl) ?_ hHeld ?_
      rotate_left
      · (intro w hSw; (try dsimp only at hSw); go_simp; try with_reducible rfl)
      simp only [Act.put, List.setIfInBounds_toArray, List.set_cons_zero, List.set_cons_succ]
      refine take_yes 14 42 (v := ?_) rfl rfl (by kernel_rfl) (by kernel_rfl) (by kernel_rfl) (fun _ _ _ h => h) (by rfl) ?_ hHeld ?_
      rotate_left
      · (intro w hSw; (try dsimp only at hSw); go_simp; try with_reducible rfl)
      simp only [Act.put, List.setIfInBounds_toArray, List.set_cons_zero, List.set_cons_succ]
      refine take_yes 15 43 (v := ?_) rfl rfl (by kernel_rfl) (by kernel_rfl) (by kernel_rfl) (fun _ _ _ h => h) (by rfl) ?_ hHeld ?_
      rotate_left
      · (intro w hSw; (try dsimp only at hSw); go_simp; try with_reducible rfl)
      simp only [Act.put, List.setIfInBounds_toArray, List.set_cons_zero, List.set_cons_succ]
      refine take_yes 16 44 (v := ?_) rfl rfl (by kernel_rfl) (by kernel_rfl) (by kernel_rfl) (fun _ _ _ h => h) (by rfl) ?_ hHeld ?_
      rotate_left
      · (intro w hSw; (try dsimp only at hSw); go_simp; try with_reducible rfl)
      simp only [Act.put, List.setIfInBounds_toArray, List.set_cons_zero, List.set_cons_succ]
      refine take_yes 17 45 (v := ?_) rfl rfl (by kernel_rfl) (by kernel_rfl) (by kernel_rfl) (fun _ _ _ h => h) (by rfl) ?_ hHeld ?_
      rotate_left
      · (intro w hSw; (try dsimp only at hSw); go_simp; try with_reducible rfl)
      simp only [Act.put, List.setIfInBounds_toArray, List.set_cons_zero, List.set_cons_succ]
      refine take_yes 18 46 (v := ?_) rfl rfl (by kernel_rfl) (by kernel_rfl) (by kernel_rfl) (fun _ _ _ h => h) (by rfl) ?_ hHeld ?_
      rotate_left
      · (intro w hSw; (try dsimp only at hSw); go_simp; try with_reducible rfl)
      simp only [Act.put, List.setIfInBounds_toArray, List.set_cons_zero, List.set_cons_succ]
      refine take_yes 19 47 (v := ?_) rfl rfl (by kernel_rfl) (by kernel_rfl) (by kernel_rfl) (fun _ _ _ h => h) (by rfl) ?_ hHeld ?_
      rotate_left
      · (intro w hSw; (try dsimp only at hSw); go_simp; try with_reducible rfl)
      simp only [Act.put, List.setIfInBounds_toArray, List.set_cons_zero, List.set_cons_succ]
      refine take_yes 20 48 (v := ?_) rfl rfl (by kernel_rfl) (by kernel_rfl) (by kernel_rfl) (fun _ _ _ h => h) (by rfl) ?_ hHeld ?_
      rotate_left
      · (intro w hSw; (try dsimp only at hSw); go_simp; try with_reducible rfl)
      simp only [Act.put, List.setIfInBounds_toArray, List.set_cons_zero, List.set_cons_succ]
      refine take_yes 21 49 (v := ?_) rfl rfl (by kernel_rfl) (by kernel_rfl) (by kernel_rfl) (fun _ _ _ h => h) (by rfl) ?_ hHeld ?_
      rotate_left
      · (intro w hSw; (try dsimp only at hSw); go_simp; try with_reducible rfl)
      simp only [Act.put, List.setIfInBounds_toArray, List.set_cons_zero, List.set_cons_succ]
      refine take_yes 22 50 (v := ?_) rfl rfl (by kernel_rfl) (by kernel_rfl) (by kernel_rfl) (fun _ _ _ h => h) (by rfl) ?_ hHeld ?_
      rotate_left
      · (intro w hSw; (try dsimp only at hSw); go_simp; try with_reducible rfl)
      simp only [Act.put, List.setIfInBounds_toArray, List.set_cons_zero, List.set_cons_succ]
      refine take_yes 23 51 (v := ?_) rfl rfl (by kernel_rfl) (by kernel_rfl) (by kernel_rfl) (fun _ _ _ h => h) (by rfl) ?_ hHeld ?_
      rotate_left
      · (intro w hSw; (try dsimp only at hSw); go_simp; try with_reducible rfl)
      simp only [Act.put, List.setIfInBounds_toArray, List.set_cons_zero, List.set_cons_succ]
      refine take_yes 24 52 (v := ?_) rfl rfl (by kernel_rfl) (by kernel_rfl) (by kernel_rfl) (fun _ _ _ h => h) (by rfl) ?_ hHeld ?_
      rotate_left
      · (intro w hSw; (try dsimp only at hSw); go_simp; try with_reducible rfl)
      simp only [Act.put, List.setIfInBounds_toArray, List.set_cons_zero, List.set_cons_succ]
      refine wpAnyH_ready (rs := [25]) (by kernel_rfl) (by simp) (AllReadyH.cons rfl (fun K hK => ?_) AllReadyH.nil)
      go_simp
      refine (HA.out _ (HG4.out.trans (by (repeat' (first | with_reducible exact Gr.refl _ | with_reducible refine Gr.set ?_ _ ?_ _ | with_reducible refine Gr.alloc ?_ | with_reducible refine Gr.drew ?_ | with_reducible refine Gr.trans ?_ (by assumption))) <;> (first | (simp; done) | (simp; omega) | omega)))).mono ?_; rintro e w9 ⟨rfl, hg9⟩
      (try go_wp2_with fail)
      refine hK.out _ _ (by exact hold22 HX4.out HY4.out (by (repeat' (first | with_reducible exact Gr.refl _ | with_reducible refine Gr.set ?_ _ ?_ _ | with_reducible refine Gr.alloc ?_ | with_reducible refine Gr.drew ?_ | with_reducible refine Gr.trans ?_ (by assumption))) <;> (first | (simp; done) | (simp; omega) | omega))) (fun hHeldN => ?_)
      clear hHeld hK K
      have hHeld := hHeldN
      clear hHeldN
      refine take_yes 26 54 (v := ?_) rfl rfl (by kernel_rfl) (by kernel_rfl) (by kernel_rfl) (fun _ _ _ h => h) (by rfl) ?_ hHeld ?_
      rotate_left
      · (intro w hSw; (try dsimp only at hSw); go_simp; try with_reducible rfl)
      simp only [Act.put, List.setIfInBounds_toArray, List.set_cons_zero, List.set_cons_succ]
      refine take_yes 27 4 (v := ?_) rfl rfl (by kernel_rfl) (by kernel_rfl) (by kernel_rfl) (fun _ _ _ h => h) (by rfl) ?_ hHeld ?_
      rotate_left
      · (intro w hSw; (try dsimp only at hSw); go_simp; try with_reducible rfl)
      simp only [Act.put, List.setIfInBounds_toArray, List.set_cons_zero, List.set_cons_succ]
      refine wpAnyH_done (by kernel_rfl) ?_ _
      have HG9 : Hid (Gr w w9) := HG4.out.trans hHeld.1
      go_wp2
      go_ret
      exact ⟨rfl, HG9.out⟩
    · rw [decide_eq_false h1] at HF1
      clear h0 h1
      go_enter Tryd.func3, Tryd.ntmps3
      go_wp2_with fail
      refine (HF0.out _).mono ?_
      rintro e w1 ⟨rfl, hg⟩
      have HG1 : Hid (Gr w w1) := (Gr.refl _).alloc.alloc.trans hg
      obtain ⟨y0, y1, _, _, yl⟩ := HY0.out.gr hg
      clear hg
      go_wp2_with fail
      refine (HF1.out _).mono ?_
      rintro e w2 ⟨rfl, hg⟩
      have HG2 : Hid (Gr w w2) := HG1.out.trans hg
      clear hg
      go_wp2_with fail
      refine (HA.out _ HG2.out).mono ?_
      rintro e w3 ⟨rfl, hg⟩
      have HG3 : Hid (Gr w w3) := HG2.out.trans hg
      clear hg
      go_wp2
      go_ret
      exact ⟨rfl, HG3.out⟩
  · rw [decide_eq_false h0] at HF0
    clear h0
    go_enter Tryd.func3, Tryd.ntmps3
    go_wp2_with fail
    refine (HF0.out _).mono ?_
    rintro e w1 ⟨rfl, hg⟩
    have HG1 : Hid (Gr w w1) := (Gr.refl _).alloc.alloc.trans hg
    clear hg
    go_wp2_with fail
    refine (HA.out _ HG1.out).mono ?_
    rintro e w2 ⟨rfl, hg⟩
    have HG2 : Hid (Gr w w2) := HG1.out.trans hg
    clear hg
    go_wp2
    go_ret
    exact ⟨rfl, HG2.out⟩

set_option maxRecDepth 100000 in
theorem defChecks_lifted (os : Os) (started : os.Started) (H : Type) (enc : TypeId × Value → H) :
    ReturnsInHanded {} Tryd.checked os 3 .any (fun w args => (Rows.defChecksSpec.pre enc Tryd.prog Tryd.f3 [] false w args ∧ laidMetH Tryd.prog laidL w) ∧ sizedMet enc Tryd.prog Tryd.f3 (OpenSpec.ofChange Rows.defChecksSpec) false w args)
      (Rows.defChecksSpec.post enc Tryd.prog Tryd.f3 false true false false) := by
  refine returnsInHanded_of_change_and (C := Tryd.checked) (X := fun w _ => laidMetH Tryd.prog laidL w) (fun _ _ _ hh h => h.of_heap hh) own2 started (by kernel_rfl) Tryd.func3
    (ChangeSpec.witness_shaped (enc := enc) (C := Tryd.checked) (os := os) (X := fun w _ => laidMetH Tryd.prog laidL w) false (World.doorLaid Tryd.prog 400 os) #[.agg #[.string ⟨#[]⟩, .slice none 0 0], .agg #[.string ⟨#[]⟩, .slice none 0 0]] 8 rfl (World.shaped_of_RefB (by kernel_rfl) (by kernel_rfl)) (by kernel_rfl) (by kernel_rfl) (by kernel_rfl) (door_met os _)) ?_
  intro W base args ds gs before hval0 hW _ hsz0 hL _
  have hval : ∀ (j : Nat) t v, Tryd.f3.params[j]? = some t → args[j]? = some v → Value.okWide Tryd.prog W .any base t v := hval0
  have hW' := hW
  obtain ⟨p, q, hA0, hV, rfl, hfz, hnd⟩ := hW
  have hA : DataW.TrodAll enc Tryd.prog W 0 (fun _ => true) true Tryd.f3.params.toList args.toList ds p := hA0
  rw [Tryd.params3] at hA hval
  obtain ⟨v0, v1, d0, d1, p0, p1, rfl, rfl, rfl, h0, h1⟩ := trodAll_two hA
  obtain ⟨rfl, rfl⟩ := trodVars_none hV
  have k0 := h0
  have lt0 : ∀ x ∈ p0, x.block < W.heap.size := by obtain ⟨m, hm⟩ := k0; exact DataW.trod_lt m _ _ _ hm
  have k1 := h1
  have lt1 : ∀ x ∈ p1, x.block < W.heap.size := by obtain ⟨m, hm⟩ := k1; exact DataW.trod_lt m _ _ _ hm
  obtain ⟨nm0, ad0, cap0, L0, rfl, hs0, hL0, hn0, hz0⟩ := open_def (hval 0 24 v0 rfl rfl) h0
  obtain ⟨nm1, ad1, cap1, L1, rfl, hs1, hL1, hn1, hz1⟩ := open_def (hval 1 24 v1 rfl rfl) h1
  clear hA0 hval0
  have hE := env_of_laid hL
  refine (defChecks_walk nm0 L0 ad0 cap0 nm1 L1 ad1 cap1 W hE hs0 hL0 hn0 hz0 hs1 hL1 hn1 hz1).mono fun e W' ⟨he, hg⟩ => ?_
  subst he
  exact ⟨_, rfl, _, _, _, [], _, [], hW', trodAll_mk1 (shut_bool Tryd.underlying4 _), trodAll_mk2 (Below.trod laidOut2 (by kernel_rfl) (of_decide_eq_true (by kernel_rfl)) k0 hg.below lt0) (Below.trod laidOut2 (by kernel_rfl) (of_decide_eq_true (by kernel_rfl)) k1 hg.below lt1), rfl, hg.below.frame _, fun h => by cases h⟩

theorem defChecks_holds : Rows.DefChecksSaid :=
  OpenClaim.holds_of_wide 3 Tryd.f3 rfl rfl rfl rfl rfl rfl rfl ⟨rfl, rfl, rfl, rfl, rfl⟩ rfl rfl rfl rfl rfl (by kernel_rfl) Tryd.func3 (by kernel_rfl)
    (of_decide_eq_true (by kernel_rfl)) (by unfold Func.isWrapper; first | (rw [if_pos (by decide +kernel)]; kernel_rfl) | (rw [if_neg (by decide +kernel)]; exact ⟨rfl, rfl⟩))
    (fun os started H enc _ => defChecks_lifted os started H enc)

theorem defChecks_card_holds : Rows.DefChecksCardSaid :=
  Claim7.holds_tied_plain_at .later [] [.data, .data, .data] true (true, "ae7bc6c80cafa693bbd408374e132e2c7b62b394d903cdd24dd968ac5e817c12") false
    defChecks_holds (fun _ h => by cases h) (by kernel_rfl) (fun _ h => by cases h) defChecks_row_tie rfl ⟨rfl, rfl⟩ (by kernel_rfl) rfl
    (fun f fn hf hfn => by
      obtain rfl : f = 3 := Option.some.inj ((show Tryd.prog.funcNamed "entente/ententelaw09.DefChecks" = some 3 by kernel_rfl).symm.trans hf) |>.symm
      obtain rfl : fn = Tryd.f3 := (Option.some.inj (Tryd.func3.symm.trans hfn)).symm
      exact ⟨by kernel_rfl, fun j t ht => by
        rw [Tryd.params3] at ht
        have hm : t ∈ [24, 24] := by simpa using Array.mem_of_getElem? ht
        have hall : ([24, 24].all fun u => !Tryd.prog.wantsStandIn u) = true := by kernel_rfl
        exact (show Tryd.prog.wantsStandIn t = false by simpa using List.all_eq_true.1 hall t hm)⟩)
    (by kernel_rfl)
end Go.Proofs.YtdliljijgokpjaaDoor
